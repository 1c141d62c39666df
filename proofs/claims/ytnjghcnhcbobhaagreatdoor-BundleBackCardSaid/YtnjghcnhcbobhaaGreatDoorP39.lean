/-
For every input the law BundleBack of layer 17 returns true, and each argument reads afterwards as it read before; the listed tables of package sha and the listed handle of errors' type are tied to the program's text.
-/
import Derived.Test.YtnjghcnhcbobhaaGreatDoorTb
import Derived.Test.YtnjghcnhcbobhaaGreatDoorAw
import Derived.Test.YtnjghcnhcbobhaaGreatDoorV14
import Derived.Test.YtnjghcnhcbobhaaGreatDoorE15
import Derived.Test.YtnjghcnhcbobhaaGreatDoorB17
set_option maxRecDepth 100000
set_option maxHeartbeats 4000000
namespace Go.Proofs.YtnjghcnhcbobhaaGreatDoor
open Go.ChangeShapes Go.WideShapes Go.ChangeAt Go.RowKit
open Go.ChangeMaps (open_string shut_string)
set_option linter.unusedVariables false
set_option linter.unusedSimpArgs false
theorem bundleBack_lifted (os : Os) (started : os.Started) (H : Type) (enc : TypeId × Value → H) :
  ReturnsInHanded {} Tryz.checked os 3 .any (fun w args => (Rows.bundleBackSpec.pre enc Tryz.prog Tryz.f3 [] false w args ∧ laidMetH Tryz.prog Rows.bundleBackRow.laid w) ∧ sizedMet enc Tryz.prog Tryz.f3 (OpenSpec.ofChange Rows.bundleBackSpec) false w args)
   (Rows.bundleBackSpec.post enc Tryz.prog Tryz.f3 false true false false) := by
 refine returnsInHanded_of_change_and (C := Tryz.checked) (X := fun w _ => laidMetH Tryz.prog Rows.bundleBackRow.laid w) (fun _ _ _ hh h => h.of_heap hh) own started (by kernel_rfl) Tryz.func3
  (ChangeSpec.witness_shaped (enc := enc) (C := Tryz.checked) (os := os) (X := fun w _ => laidMetH Tryz.prog Rows.bundleBackRow.laid w) false (hwL os) #[.agg #[.int .u32 0, .slice none 0 0], .string ⟨#[]⟩, .int .u16 0] 8 (hwL_os os)
   (World.shaped_of_ZipB (by kernel_rfl) (by kernel_rfl)) (by kernel_rfl) (by kernel_rfl) (by kernel_rfl)
   (hwL_met os _)) ?_
 intro W base args ds gs before hval0 hW _ _ hL _
 have hval : ∀ (j : Nat) t v, Tryz.f3.params[j]? = some t → args[j]? = some v → Value.okWide Tryz.prog W .any base t v := hval0
 have hW' := hW
 obtain ⟨p, q, hA0, hV, rfl, hfz, hnd⟩ := hW
 have hA : DataW.TrodAll enc Tryz.prog W 0 (fun _ => true) true Tryz.f3.params.toList args.toList ds p := hA0
 rw [Tryz.params3] at hA hval
 obtain ⟨v0, vs0, d0, ds0, p0, q0, hargs, rfl, rfl, h0, r0⟩ := trodAll_cons hA
 obtain ⟨v1, vs1, d1, ds1, p1, q1, rfl, rfl, rfl, h1, r1⟩ := trodAll_cons r0
 obtain ⟨v2, vs2, d2, ds2, p2, q2, rfl, rfl, rfl, h2, r2⟩ := trodAll_cons r1
 obtain ⟨rfl, rfl, rfl⟩ := trodAll_nil r2
 obtain rfl : args = #[v0, v1, v2] := by cases args; simp_all
 obtain ⟨rfl, rfl⟩ := trodVars_none hV
 have k0 := h0
 have lt0 : ∀ x ∈ p0, x.block < W.heap.size := by obtain ⟨m, hm⟩ := k0; exact DataW.trod_lt m _ _ _ hm
 have k1 := h1
 have lt1 : ∀ x ∈ p1, x.block < W.heap.size := by obtain ⟨m, hm⟩ := k1; exact DataW.trod_lt m _ _ _ hm
 have k2 := h2
 have lt2 : ∀ x ∈ p2, x.block < W.heap.size := by obtain ⟨m, hm⟩ := k2; exact DataW.trod_lt m _ _ _ hm
 obtain ⟨nm0, oa0, n0, c0, I0, K0, rfl, b0, i0, k0', m0⟩ := open_bun (hval 0 25 v0 rfl rfl) h0
 obtain ⟨a1, rfl, _, _, w1⟩ := open_string Tryz.underlying9 (hval 1 9 v1 rfl rfl) h1
 obtain ⟨a2, rfl, _, _, w2⟩ := open_int Tryz.underlying26 (hval 2 26 v2 rfl rfl) h2
 clear hA0 hval0
 obtain ⟨hT, hE⟩ := laid3_of hL
 refine (bundleBack_any (fun W h hE => awake17_any (fun W h hE => Awake16_any (fun W h hE => awake16_any (fun W h hE => Awake15_any (fun W h hE => awake15_any (fun W h => Awake14_any (fun W h => awake14_any (fun W h => Awake13_any (fun W h => awake13_any (fun W h => Awake12_any aw12 W h) W h) W h) W h) W h) W h hE) W h hE) W h hE) W h hE) W h hE) nm0 oa0 n0 c0 I0 K0 a1 a2 W b0.1 b0.2 m0 i0 k0' (bounds_u16 w2).1 (bounds_u16 w2).2 hT hE).mono fun e W' ⟨he, bel⟩ => ?_
 subst he
 exact ⟨_, rfl, _, _, _, [], _, [], hW', trodAll_mk1 (shut_bool Tryz.underlying4 _), (trodAll_cons_mk (Below.trod laidOut (by kernel_rfl) (of_decide_eq_true (by kernel_rfl)) k0 bel lt0) (trodAll_cons_mk (Below.trod laidOut (by kernel_rfl) (of_decide_eq_true (by kernel_rfl)) k1 bel lt1) (trodAll_cons_mk (Below.trod laidOut (by kernel_rfl) (of_decide_eq_true (by kernel_rfl)) k2 bel lt2) trodAll_mk0))), rfl, bel.frame _, fun h => by cases h⟩
theorem bundleBack_closed : joinedFacts Tryz.prog 3 Tryz.f3 (Rows.bundleBackSpec) Rows.bundleBackRow = true := by
 first
 | (unfold joinedFacts; rw [may_enter, make_is, lifts_is]; first | (rw [norec 3 (by decide)]; kernel_rfl) | kernel_rfl)
 | kernel_rfl
theorem bundleBack_said : Rows.BundleBackSaid :=
 OpenClaim.holds_of_wide 3 Tryz.f3 rfl rfl rfl rfl rfl rfl rfl ⟨rfl, rfl, rfl, rfl, rfl⟩ rfl rfl rfl rfl rfl (by kernel_rfl) Tryz.func3 (by first | exact bundleBack_closed | kernel_rfl)
  (of_decide_eq_true (by kernel_rfl)) (by unfold Func.isWrapper; first | (rw [if_pos (by decide +kernel)]; kernel_rfl) | (rw [if_neg (by decide +kernel)]; exact ⟨rfl, rfl⟩))
  (fun os started H enc _ => bundleBack_lifted os started H enc)
theorem bundleBack_card : Rows.BundleBackCardSaid :=
 Claim7.holds_tied_plain_at .later [] _ _ _ _ bundleBack_said (fun _ h => by cases h) (by kernel_rfl) (fun _ h => by cases h) bundleBack_row_tie rfl ⟨rfl, rfl⟩ (by kernel_rfl) rfl
  (fun f fn hf hfn => by
   obtain rfl : f = 3 := Option.some.inj ((show Tryz.prog.funcNamed "sapwood/sapwoodlaw17.BundleBack" = some 3 by kernel_rfl).symm.trans hf) |>.symm
   obtain rfl : fn = Tryz.f3 := (Option.some.inj (Tryz.func3.symm.trans hfn)).symm
   exact ⟨by kernel_rfl, fun j t ht => by
    rw [Tryz.params3] at ht
    have hm : t ∈ [25, 9, 26] := by simpa using Array.mem_of_getElem? ht
    have hall : ([25, 9, 26].all fun u => !Tryz.prog.wantsStandIn u) = true := by kernel_rfl
    exact (show Tryz.prog.wantsStandIn t = false by simpa using List.all_eq_true.1 hall t hm)⟩)
  (by kernel_rfl)
end Go.Proofs.YtnjghcnhcbobhaaGreatDoor
