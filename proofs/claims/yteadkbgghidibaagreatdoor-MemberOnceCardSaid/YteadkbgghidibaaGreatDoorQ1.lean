/- Q1 -/
import Derived.Test.YteadkbgghidibaaGreatDoorQy
import Derived.Test.YteadkbgghidibaaGreatDoorOw
import Derived.Test.YteadkbgghidibaaGreatDoorE15
set_option maxRecDepth 100000
set_option maxHeartbeats 4000000
namespace Go.Proofs.YteadkbgghidibaaGreatDoor
namespace Mc
open Go.RowKit
set_option linter.unusedVariables false
set_option linter.unusedSimpArgs false
set_option maxRecDepth 1000000
theorem once_run : isT (callS [5] (.f 4) [keyS (.key 0), keyS (.key 1), keyS (.key 2)] .l n7) = true := by decide +kernel
theorem memberOnce_any (p q r : Nat → Int) (w : World) (hp : Bytes 32 p) (hq : Bytes 32 q) (hr : Bytes 32 r) (hT : Tabs w) (hE : EtAt w) : Calls Tryz.prog 4 #[.agg (ints .u8 32 p), .agg (ints .u8 32 q), .agg (ints .u8 32 r)] w fun e w' => e = .returned (.bool true) ∧ Below w.heap.size w w' := by
 have h := run_keys aw22_KT.one once_run (by decide +kernel) (fun i => match i with | 0 => p | 1 => q | _ => r) hT hE
 simp only [List.map_cons, List.map_nil] at h
 rw [keyS_at w _ 0 (by decide) hp, keyS_at w _ 1 (by decide) hq, keyS_at w _ 2 (by decide) hr] at h
 exact h
end Mc
end Go.Proofs.YteadkbgghidibaaGreatDoor
namespace Go.Proofs.YteadkbgghidibaaGreatDoor
open Go.ChangeShapes Go.WideShapes Go.ChangeAt Go.RowKit
open Go.ChangeMaps (open_string shut_string)
set_option linter.unusedVariables false
set_option linter.unusedSimpArgs false
theorem memberOnce_lifted (os : Os) (started : os.Started) (H : Type) (enc : TypeId × Value → H) :
  ReturnsInHanded {} Tryz.checked os 4 .any (fun w args => (Rows.memberOnceSpec.pre enc Tryz.prog Tryz.f4 [] false w args ∧ laidMetH Tryz.prog Rows.memberOnceRow.laid w) ∧ sizedMet enc Tryz.prog Tryz.f4 (OpenSpec.ofChange Rows.memberOnceSpec) false w args)
   (Rows.memberOnceSpec.post enc Tryz.prog Tryz.f4 false true false false) := by
 refine returnsInHanded_of_change_and (C := Tryz.checked) (X := fun w _ => laidMetH Tryz.prog Rows.memberOnceRow.laid w) (fun _ _ _ hh h => h.of_heap hh) own started (by kernel_rfl) Tryz.func4
  (ChangeSpec.witness_shaped (enc := enc) (C := Tryz.checked) (os := os) (X := fun w _ => laidMetH Tryz.prog Rows.memberOnceRow.laid w) false (hwL os) #[.agg (Array.replicate 32 (.int .u8 0)), .agg (Array.replicate 32 (.int .u8 0)), .agg (Array.replicate 32 (.int .u8 0))] 8 (hwL_os os)
   (World.shaped_of_ZipB (by kernel_rfl) (by kernel_rfl)) (by kernel_rfl) (by kernel_rfl) (by kernel_rfl)
   (hwL_met os _)) ?_
 intro W base args ds gs before hval0 hW _ _ hL _
 have hval : ∀ (j : Nat) t v, Tryz.f4.params[j]? = some t → args[j]? = some v → Value.okWide Tryz.prog W .any base t v := hval0
 have hW' := hW
 obtain ⟨p, q, hA0, hV, rfl, hfz, hnd⟩ := hW
 have hA : DataW.TrodAll enc Tryz.prog W 0 (fun _ => true) true Tryz.f4.params.toList args.toList ds p := hA0
 rw [Tryz.params4] at hA hval
 obtain ⟨v0, vs0, d0, ds0, p0, q0, hargs, rfl, rfl, h0, r0⟩ := trodAll_cons hA
 obtain ⟨v1, vs1, d1, ds1, p1, q1, rfl, rfl, rfl, h1, r1⟩ := trodAll_cons r0
 obtain ⟨v2, vs2, d2, ds2, p2, q2, rfl, rfl, rfl, h2, r2⟩ := trodAll_cons r1
 obtain ⟨rfl, rfl, rfl⟩ := trodAll_nil r2
 obtain rfl : args = #[v0, v1, v2] := by cases args; simp_all
 obtain ⟨rfl, rfl⟩ := trodVars_none hV
 have k0 := h0
 have lt0 : ∀ x ∈ p0, x.block < W.heap.size := by obtain ⟨m, hm⟩ := k0; exact DataW.trod_lt m _ _ _ hm
 have k1 := h1
 have lt1 : ∀ x ∈ p1, x.block < W.heap.size := by obtain ⟨m, hm⟩ := k1; exact DataW.trod_lt m _ _ _ hm
 have k2 := h2
 have lt2 : ∀ x ∈ p2, x.block < W.heap.size := by obtain ⟨m, hm⟩ := k2; exact DataW.trod_lt m _ _ _ hm
 obtain ⟨a0, rfl, w0⟩ := open_array Tryz.underlying23 Tryz.underlying5 (by kernel_rfl) (by kernel_rfl) (hval 0 23 v0 rfl rfl) h0
 obtain ⟨a1, rfl, w1⟩ := open_array Tryz.underlying23 Tryz.underlying5 (by kernel_rfl) (by kernel_rfl) (hval 1 23 v1 rfl rfl) h1
 obtain ⟨a2, rfl, w2⟩ := open_array Tryz.underlying23 Tryz.underlying5 (by kernel_rfl) (by kernel_rfl) (hval 2 23 v2 rfl rfl) h2
 clear hA0 hval0
 obtain ⟨hT, hE⟩ := laid3_of hL
 refine (Mc.memberOnce_any a0 a1 a2 W (bytes_of_wf w0) (bytes_of_wf w1) (bytes_of_wf w2) hT hE).mono fun e W' ⟨he, bel⟩ => ?_
 subst he
 exact ⟨_, rfl, _, _, _, [], _, [], hW', trodAll_mk1 (shut_bool Tryz.underlying4 _), (trodAll_cons_mk (Below.trod laidOut (by kernel_rfl) (of_decide_eq_true (by kernel_rfl)) k0 bel lt0) (trodAll_cons_mk (Below.trod laidOut (by kernel_rfl) (of_decide_eq_true (by kernel_rfl)) k1 bel lt1) (trodAll_cons_mk (Below.trod laidOut (by kernel_rfl) (of_decide_eq_true (by kernel_rfl)) k2 bel lt2) trodAll_mk0))), rfl, bel.frame _, fun h => by cases h⟩
theorem memberOnce_la : laidOutB Tryz.prog = true := by kernel_rfl
theorem memberOnce_ma : mapsRowed Tryz.prog = true := by kernel_rfl
theorem memberOnce_inp : Tryz.prog.inPlace 4 = Rows.memberOnceRow.inPlace := by kernel_rfl
theorem memberOnce_unf : Tryz.prog.unfollowed 4 = Rows.memberOnceRow.unfollowed := by kernel_rfl
theorem memberOnce_nam : Tryz.prog.varsNamed 4 = Rows.memberOnceRow.named := by kernel_rfl
theorem memberOnce_rec : Tryz.prog.recurses 4 = Rows.memberOnceRow.recurses := by
 first
 | (unfold Program.recurses; rw [memberOnce_unf]; rfl)
 | (rw [norec 4 (by decide), memberOnce_unf]; rfl)
theorem memberOnce_gf : Tryz.prog.funcs.any Func.goes = false := by kernel_rfl
theorem memberOnce_fn : Tryz.prog.funcNamed "sapwood/sapwoodlaw22.MemberOnce" = some 4 := by kernel_rfl
theorem memberOnce_goes : false = Rows.memberOnceRow.goesBy Tryz.prog := by
 have h : ∀ f, Tryz.prog.goes f = false := fun f => by
  unfold Program.goes
  rw [memberOnce_gf, Bool.and_false, Bool.or_false, List.any_eq_false]
  intro g _
  cases hg : Tryz.prog.funcs[g]? with
  | none => simp
  | some fn =>
   have := Array.any_eq_false.1 memberOnce_gf
   obtain ⟨hi, rfl⟩ := Array.getElem?_eq_some_iff.1 hg
   simpa using this g hi
 show false = ((Tryz.prog.funcNamed Rows.memberOnceRow.func).any Tryz.prog.goes || false)
 cases Tryz.prog.funcNamed Rows.memberOnceRow.func with
 | none => rfl
 | some f => simp [h]
theorem memberOnce_closed : joinedFacts Tryz.prog 4 Tryz.f4 (Rows.memberOnceSpec) Rows.memberOnceRow = true := by
 unfold joinedFacts
 rw [may_enter, make_is, lifts_is, memberOnce_rec, memberOnce_la, memberOnce_ma, memberOnce_inp, memberOnce_unf, memberOnce_nam]
 kernel_rfl
theorem memberOnce_said : Rows.MemberOnceSaid :=
 OpenClaim.holds_of_wide 4 Tryz.f4 rfl rfl rfl rfl rfl rfl rfl ⟨rfl, rfl, rfl, rfl, rfl⟩ rfl rfl rfl rfl rfl (by kernel_rfl) Tryz.func4 (by first | exact memberOnce_closed | kernel_rfl)
  (of_decide_eq_true (by kernel_rfl)) (by unfold Func.isWrapper; first | (rw [if_pos (by decide +kernel)]; kernel_rfl) | (rw [if_neg (by decide +kernel)]; exact ⟨rfl, rfl⟩))
  (fun os started H enc _ => memberOnce_lifted os started H enc)
end Go.Proofs.YteadkbgghidibaaGreatDoor
