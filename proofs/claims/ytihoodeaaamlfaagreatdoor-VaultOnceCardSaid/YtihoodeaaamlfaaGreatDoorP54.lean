/-
The law VaultOnce of layer 21 returns true for every list of acts; the listed tables of package sha and the listed handle of errors' type are tied to the program's text.
-/
import Derived.Test.YtihoodeaaamlfaaGreatDoorOw
import Derived.Test.YtihoodeaaamlfaaGreatDoorE15
import Derived.Test.YtihoodeaaamlfaaGreatDoorWr
set_option linter.unusedVariables false
set_option linter.unusedSimpArgs false
set_option maxRecDepth 100000
set_option maxHeartbeats 4000000
namespace Go.Proofs.YtihoodeaaamlfaaGreatDoor
open Go.ChangeShapes Go.WideShapes Go.ChangeAt Go.RowKit
open Go.ChangeMaps (open_string shut_string)
theorem vaultOnce_lifted (os : Os) (started : os.Started) (H : Type) (enc : TypeId × Value -> H) :
  ReturnsInHanded {} Tryz.checked os 3 .any (fun w args => (Rows.vaultOnceSpec.pre enc Tryz.prog Tryz.f3 [] false w args /\ laidMetH Tryz.prog Rows.vaultOnceRow.laid w) /\ sizedMet enc Tryz.prog Tryz.f3 (OpenSpec.ofChange Rows.vaultOnceSpec) false w args)
   (Rows.vaultOnceSpec.post enc Tryz.prog Tryz.f3 false true false false) := by
 refine returnsInHanded_of_change_and (C := Tryz.checked) (X := fun w _ => laidMetH Tryz.prog Rows.vaultOnceRow.laid w) (fun _ _ _ hh h => h.of_heap hh) own started zqa Tryz.func3
  (ChangeSpec.witness_shaped (enc := enc) (C := Tryz.checked) (os := os) (X := fun w _ => laidMetH Tryz.prog Rows.vaultOnceRow.laid w) false (hwL os) #[.slice none 0 0] 8 (zqb1 os)
   (World.shaped_of_ZipB zqa zqa) zqa zqa zqa
   (zqbn os _)) ?_
 intro W base args ds gs before hval0 hW _ _ hL _;have hval : ∀ (j : Nat) t v, Tryz.f3.params[j]? = some t -> args[j]? = some v -> Value.okWide Tryz.prog W .any base t v := hval0;have hW' := hW;obtain ⟨p, q, hA0, hV, rfl, hfz, hnd⟩ := hW;have hA : DataW.TrodAll enc Tryz.prog W 0 (fun _ => true) true Tryz.f3.params.toList args.toList ds p := hA0;rw [Tryz.params3] at hA hval;obtain ⟨v0, vs0, d0, ds0, p0, q0, hargs, rfl, rfl, h0, r0⟩ := trodAll_cons hA;obtain ⟨rfl, rfl, rfl⟩ := trodAll_nil r0;obtain rfl : args = #[v0] := by cases args; simp_all
 obtain ⟨rfl, rfl⟩ := trodVars_none hV;have k0 := h0;have lt0 : ∀ x ∈ p0, x.block < W.heap.size := by obtain ⟨m, hm⟩ := k0; exact DataW.trod_lt m _ _ _ hm
 obtain ⟨oa0, n0, c0, D0, I0, K0, rfl, m0, b0, w0⟩ := zqak (hval 0 22 v0 rfl rfl) h0;clear hA0 hval0;obtain ⟨hT, hE⟩ := laid3_of hL;refine (zq0 zqa2 oa0 n0 c0 D0 I0 K0 W b0 w0 hT hE).mono fun e W' ⟨he, bel⟩ => ?_
 subst he;exact ⟨_, rfl, _, _, _, [], _, [], hW', trodAll_mk1 (shut_bool Tryz.underlying4 _), (trodAll_cons_mk (Below.trod laidOut zqa (of_decide_eq_true zqa) k0 bel lt0) trodAll_mk0), rfl, bel.frame _, fun h => by cases h⟩
theorem zqr : joinedFacts Tryz.prog 3 Tryz.f3 (Rows.vaultOnceSpec) Rows.vaultOnceRow = true := by
 first
 | (unfold joinedFacts; rw [may_enter, make_is, lifts_is]; first | (rw [norec 3 (by decide)]; kernel_rfl) | kernel_rfl)
 | kernel_rfl
theorem vaultOnce_said : Rows.VaultOnceSaid :=
 OpenClaim.holds_of_wide 3 Tryz.f3 rfl rfl rfl rfl rfl rfl rfl ⟨rfl, rfl, rfl, rfl, rfl⟩ rfl rfl rfl rfl rfl zqa Tryz.func3 (by first | exact zqr | kernel_rfl)
  (of_decide_eq_true zqa) (by unfold Func.isWrapper; first | (rw [if_pos (by decide +kernel)]; kernel_rfl) | (rw [if_neg (by decide +kernel)]; exact ⟨rfl, rfl⟩))
  (fun os started H enc _ => vaultOnce_lifted os started H enc)
theorem vaultOnce_card : Rows.VaultOnceCardSaid :=
 Claim7.holds_tied_plain_at .later [] _ _ _ _ vaultOnce_said (fun _ h => by cases h) zqa (fun _ h => by cases h) vaultOnce_row_tie rfl ⟨rfl, rfl⟩ zqa rfl
  (fun f fn hf hfn => by
   obtain rfl : f = 3 := Option.some.inj ((show Tryz.prog.funcNamed "sapwood/sapwoodlaw21.VaultOnce" = some 3 by kernel_rfl).symm.trans hf) |>.symm
   obtain rfl : fn = Tryz.f3 := (Option.some.inj (Tryz.func3.symm.trans hfn)).symm;exact ⟨by kernel_rfl, fun j t ht => by
    rw [Tryz.params3] at ht;have hm : t ∈ [22] := by simpa using Array.mem_of_getElem? ht
    have hall : ([22].all fun u => !Tryz.prog.wantsStandIn u) = true := by kernel_rfl
    exact (show Tryz.prog.wantsStandIn t = false by simpa using List.all_eq_true.1 hall t hm)⟩)
  zqa
end Go.Proofs.YtihoodeaaamlfaaGreatDoor
