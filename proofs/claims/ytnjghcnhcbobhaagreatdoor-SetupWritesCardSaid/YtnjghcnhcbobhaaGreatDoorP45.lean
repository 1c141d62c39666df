/-
For every input the law SetupWrites of layer 18 returns true, and each argument reads afterwards as it read before; the listed tables of package sha and the listed handle of errors' type are tied to the program's text.
-/
import Derived.Test.YtnjghcnhcbobhaaGreatDoorOw
import Derived.Test.YtnjghcnhcbobhaaGreatDoorL13
import Derived.Test.YtnjghcnhcbobhaaGreatDoorV14
import Derived.Test.YtnjghcnhcbobhaaGreatDoorE15
import Derived.Test.YtnjghcnhcbobhaaGreatDoorB17
import Derived.Test.YtnjghcnhcbobhaaGreatDoorU21
import Derived.Test.YtnjghcnhcbobhaaGreatDoorU20
import Derived.Test.YtnjghcnhcbobhaaGreatDoorU19
set_option linter.unusedVariables false
set_option linter.unusedSimpArgs false
set_option maxRecDepth 100000
set_option maxHeartbeats 4000000
namespace Go.Proofs.YtnjghcnhcbobhaaGreatDoor
open Go.ChangeShapes Go.WideShapes Go.ChangeAt Go.RowKit
open Go.ChangeMaps (open_string shut_string)
theorem setupWrites_lifted (os : Os) (started : os.Started) (H : Type) (enc : TypeId × Value -> H) :
  ReturnsInHanded {} Tryz.checked os 4 .any (fun w args => (Rows.setupWritesSpec.pre enc Tryz.prog Tryz.f4 [] false w args /\ laidMetH Tryz.prog Rows.setupWritesRow.laid w) /\ sizedMet enc Tryz.prog Tryz.f4 (OpenSpec.ofChange Rows.setupWritesSpec) false w args)
   (Rows.setupWritesSpec.post enc Tryz.prog Tryz.f4 false true false false) := by
 refine returnsInHanded_of_change_and (C := Tryz.checked) (X := fun w _ => laidMetH Tryz.prog Rows.setupWritesRow.laid w) (fun _ _ _ hh h => h.of_heap hh) own started zqc Tryz.func4
  (ChangeSpec.witness_shaped (enc := enc) (C := Tryz.checked) (os := os) (X := fun w _ => laidMetH Tryz.prog Rows.setupWritesRow.laid w) false (hwL os) #[.agg (#[Value.slice none 0 0] ++ Array.replicate 32 (Value.int .u8 0) ++ #[Value.slice none 0 0] ++ Array.replicate 32 (Value.int .u8 0)), .int .u32 0, .agg #[.int .i64 0, .int .i64 0], .int .i64 0] 8 (zrh5 os)
   (World.shaped_of_ZipB zqc zqc) zqc zqc zqc
   (zrbv os _)) ?_
 intro W base args ds gs before hval0 hW _ _ hL _;have hval : ∀ (j : Nat) t v, Tryz.f4.params[j]? = some t -> args[j]? = some v -> Value.okWide Tryz.prog W .any base t v := hval0;have hW' := hW;obtain ⟨p, q, hA0, hV, rfl, hfz, hnd⟩ := hW;have hA : DataW.TrodAll enc Tryz.prog W 0 (fun _ => true) true Tryz.f4.params.toList args.toList ds p := hA0;rw [Tryz.params4] at hA hval;obtain ⟨v0, vs0, d0, ds0, p0, q0, hargs, rfl, rfl, h0, r0⟩ := trodAll_cons hA;obtain ⟨v1, vs1, d1, ds1, p1, q1, rfl, rfl, rfl, h1, r1⟩ := trodAll_cons r0;obtain ⟨v2, vs2, d2, ds2, p2, q2, rfl, rfl, rfl, h2, r2⟩ := trodAll_cons r1;obtain ⟨v3, vs3, d3, ds3, p3, q3, rfl, rfl, rfl, h3, r3⟩ := trodAll_cons r2;obtain ⟨rfl, rfl, rfl⟩ := trodAll_nil r3;obtain rfl : args = #[v0, v1, v2, v3] := by cases args; simp_all
 obtain ⟨rfl, rfl⟩ := trodVars_none hV;have k0 := h0;have lt0 : ∀ x ∈ p0, x.block < W.heap.size := by obtain ⟨m, hm⟩ := k0; exact DataW.trod_lt m _ _ _ hm
 have k1 := h1;have lt1 : ∀ x ∈ p1, x.block < W.heap.size := by obtain ⟨m, hm⟩ := k1; exact DataW.trod_lt m _ _ _ hm
 have k2 := h2;have lt2 : ∀ x ∈ p2, x.block < W.heap.size := by obtain ⟨m, hm⟩ := k2; exact DataW.trod_lt m _ _ _ hm
 have k3 := h3;have lt3 : ∀ x ∈ p3, x.block < W.heap.size := by obtain ⟨m, hm⟩ := k3; exact DataW.trod_lt m _ _ _ hm
 obtain ⟨oa0, ob0, n0, c0, m0, d0', f0, t0, N0, I0, P0, rfl, bn0, bi0, bp0, bf0, bt0, ms0, mk0⟩ := zq44 (hval 0 47 v0 rfl rfl) h0;obtain ⟨a1, rfl, _, _, w1⟩ := open_int Tryz.underlying22 (hval 1 22 v1 rfl rfl) h1;obtain ⟨a2, b2, rfl, wa2, wb2⟩ := zqw8 (hval 2 49 v2 rfl rfl) h2;obtain ⟨a3, rfl, _, _, w3⟩ := open_int Tryz.underlying3 (hval 3 3 v3 rfl rfl) h3;clear hA0 hval0;obtain ⟨hT, hE⟩ := zq7t hL
 refine (zql8 (fun W h hE => zqt7 (fun W h hE => zqtx (fun W h hE => zqs3 (fun W h hE => zqto (fun W h hE => zqt8 (fun W h hE => zqss (fun W h hE => zqsq (fun W h => zqtb (fun W h => zqtt (fun W h => zqs0 (fun W h => zqum (fun W h => zqs2 aw12 W h) W h) W h) W h) W h) W h hE) W h hE) W h hE) W h hE) W h hE) W h hE) W h hE) oa0 ob0 n0 c0 m0 d0' f0 t0 N0 I0 P0 a1 a2 b2 a3 W ms0 bn0 bi0 mk0 bp0 bf0 bt0 (bounds_i64 wa2).1 (bounds_i64 wa2).2 (bounds_i64 w3).1 (bounds_i64 w3).2 hT hE).mono fun e W' ⟨he, bel⟩ => ?_
 subst he;exact ⟨_, rfl, _, _, _, [], _, [], hW', trodAll_mk1 (shut_bool Tryz.underlying4 _), (trodAll_cons_mk (Below.trod laidOut zqc (of_decide_eq_true zqc) k0 bel lt0) (trodAll_cons_mk (Below.trod laidOut zqc (of_decide_eq_true zqc) k1 bel lt1) (trodAll_cons_mk (Below.trod laidOut zqc (of_decide_eq_true zqc) k2 bel lt2) (trodAll_cons_mk (Below.trod laidOut zqc (of_decide_eq_true zqc) k3 bel lt3) trodAll_mk0)))), rfl, bel.frame _, fun h => by cases h⟩
theorem zqim : joinedFacts Tryz.prog 4 Tryz.f4 (Rows.setupWritesSpec) Rows.setupWritesRow = true := by
 first
 | (unfold joinedFacts; rw [may_enter, make_is, zq6g]; first | (rw [zrna 4 (by decide)]; kernel_rfl) | kernel_rfl)
 | kernel_rfl
theorem setupWrites_said : Rows.SetupWritesSaid :=
 OpenClaim.holds_of_wide 4 Tryz.f4 rfl rfl rfl rfl rfl rfl rfl ⟨rfl, rfl, rfl, rfl, rfl⟩ rfl rfl rfl rfl rfl zqc Tryz.func4 (by first | exact zqim | kernel_rfl)
  (of_decide_eq_true zqc) (by unfold Func.isWrapper; first | (rw [if_pos (by decide +kernel)]; kernel_rfl) | (rw [if_neg (by decide +kernel)]; exact ⟨rfl, rfl⟩))
  (fun os started H enc _ => setupWrites_lifted os started H enc)
theorem setupWrites_card : Rows.SetupWritesCardSaid :=
 Claim7.holds_tied_plain_at .later [] _ _ _ _ setupWrites_said (fun _ h => by cases h) zqc (fun _ h => by cases h) setupWrites_row_tie rfl ⟨rfl, rfl⟩ zqc rfl
  (fun f fn hf hfn => by
   obtain rfl : f = 4 := Option.some.inj ((show Tryz.prog.funcNamed "sapwood/sapwoodlaw18.SetupWrites" = some 4 by kernel_rfl).symm.trans hf) |>.symm
   obtain rfl : fn = Tryz.f4 := (Option.some.inj (Tryz.func4.symm.trans hfn)).symm;exact ⟨by kernel_rfl, fun j t ht => by
    rw [Tryz.params4] at ht;have hm : t ∈ [47, 22, 49, 3] := by simpa using Array.mem_of_getElem? ht
    have hall : ([47, 22, 49, 3].all fun u => !Tryz.prog.wantsStandIn u) = true := by kernel_rfl
    exact (show Tryz.prog.wantsStandIn t = false by simpa using List.all_eq_true.1 hall t hm)⟩)
  zqc
end Go.Proofs.YtnjghcnhcbobhaaGreatDoor
