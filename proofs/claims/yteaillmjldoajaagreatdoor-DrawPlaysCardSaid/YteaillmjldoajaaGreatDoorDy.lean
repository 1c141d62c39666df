/- Dy -/
import Derived.Test.YteaillmjldoajaaGreatDoorOw
import Derived.Test.YteaillmjldoajaaGreatDoorE15
import Derived.Test.YteaillmjldoajaaGreatDoorXt
import Derived.Test.YteaillmjldoajaaGreatDoorDl
set_option maxRecDepth 100000
set_option maxHeartbeats 4000000
namespace Go.Proofs.YteaillmjldoajaaGreatDoor
open Go.ChangeShapes Go.WideShapes Go.ChangeAt Go.RowKit
open Go.ChangeMaps (open_string shut_string)
set_option linter.unusedVariables false
set_option linter.unusedSimpArgs false
theorem drawPlays_lifted (os : Os) (started : os.Started) (H : Type) (enc : TypeId × Value → H) :
  ReturnsInHanded {} Tryz.checked os 3 .any (fun w args => (Rows.drawPlaysSpec.pre enc Tryz.prog Tryz.f3 [] false w args ∧ laidMetH Tryz.prog Rows.drawPlaysRow.laid w) ∧ sizedMet enc Tryz.prog Tryz.f3 (OpenSpec.ofChange Rows.drawPlaysSpec) false w args)
   (Rows.drawPlaysSpec.post enc Tryz.prog Tryz.f3 false true false false) := by
 refine returnsInHanded_of_change_and (C := Tryz.checked) (X := fun w _ => laidMetH Tryz.prog Rows.drawPlaysRow.laid w) (fun _ _ _ hh h => h.of_heap hh) own started (by kernel_rfl) Tryz.func3
  (ChangeSpec.witness_shaped (enc := enc) (C := Tryz.checked) (os := os) (X := fun w _ => laidMetH Tryz.prog Rows.drawPlaysRow.laid w) false (hw6L os) #[.slice none 0 0, .slice none 0 0] 8 (hw6L_os os)
   (World.shaped_of_ZipB (by kernel_rfl) (by kernel_rfl)) (by kernel_rfl) (by kernel_rfl) (by kernel_rfl)
   (hw6L_met os _)) ?_
 intro W base args ds gs before hval0 hW _ _ hL _
 have hval : ∀ (j : Nat) t v, Tryz.f3.params[j]? = some t → args[j]? = some v → Value.okWide Tryz.prog W .any base t v := hval0
 have hW' := hW
 obtain ⟨p, q, hA0, hV, rfl, hfz, hnd⟩ := hW
 have hA : DataW.TrodAll enc Tryz.prog W 0 (fun _ => true) true Tryz.f3.params.toList args.toList ds p := hA0
 rw [Tryz.params3] at hA hval
 obtain ⟨v0, vs0, d0, ds0, p0, q0, hargs, rfl, rfl, h0, r0⟩ := trodAll_cons hA
 obtain ⟨v1, vs1, d1, ds1, p1, q1, rfl, rfl, rfl, h1, r1⟩ := trodAll_cons r0
 obtain ⟨rfl, rfl, rfl⟩ := trodAll_nil r1
 obtain rfl : args = #[v0, v1] := by cases args; simp_all
 obtain ⟨rfl, rfl⟩ := trodVars_none hV
 have k0 := h0
 have lt0 : ∀ x ∈ p0, x.block < W.heap.size := by obtain ⟨m, hm⟩ := k0; exact DataW.trod_lt m _ _ _ hm
 have k1 := h1
 have lt1 : ∀ x ∈ p1, x.block < W.heap.size := by obtain ⟨m, hm⟩ := k1; exact DataW.trod_lt m _ _ _ hm
 obtain ⟨oa0, n0, c0, a0, rfl, b0, m0, w0⟩ := open_k32 (hval 0 22 v0 rfl rfl) h0
 obtain ⟨oa1, n1, c1, D1, Z1, OA1, N1, C1, K1, rfl, m1, w1⟩ := open_dacts (hval 1 23 v1 rfl rfl) h1
 clear hA0 hval0
 obtain ⟨hT, hE⟩ := laid6_of hL
 refine (drawPlays_any Mc.aw24_KT oa0 n0 c0 a0 oa1 n1 c1 D1 Z1 OA1 N1 C1 K1 W w0 w1 hT hE).mono fun e W' ⟨he, bel⟩ => ?_
 subst he
 exact ⟨_, rfl, _, _, _, [], _, [], hW', trodAll_mk1 (shut_bool Tryz.underlying4 _), (trodAll_cons_mk (Below.trod laidOut (by kernel_rfl) (of_decide_eq_true (by kernel_rfl)) k0 bel lt0) (trodAll_cons_mk (Below.trod laidOut (by kernel_rfl) (of_decide_eq_true (by kernel_rfl)) k1 bel lt1) trodAll_mk0)), rfl, bel.frame _, fun h => by cases h⟩
theorem drawPlays_la : laidOutB Tryz.prog = true := by kernel_rfl
theorem drawPlays_ma : mapsRowed Tryz.prog = true := by kernel_rfl
theorem drawPlays_inp : Tryz.prog.inPlace 3 = Rows.drawPlaysRow.inPlace := by kernel_rfl
theorem drawPlays_unf : Tryz.prog.unfollowed 3 = Rows.drawPlaysRow.unfollowed := by kernel_rfl
theorem drawPlays_nam : Tryz.prog.varsNamed 3 = Rows.drawPlaysRow.named := by kernel_rfl
theorem drawPlays_rec : Tryz.prog.recurses 3 = Rows.drawPlaysRow.recurses := by
 first
 | (unfold Program.recurses; rw [drawPlays_unf]; rfl)
 | (rw [norec 3 (by decide), drawPlays_unf]; rfl)
theorem drawPlays_gf : Tryz.prog.funcs.any Func.goes = false := by kernel_rfl
theorem drawPlays_fn : Tryz.prog.funcNamed "sapwood/sapwoodlaw24.DrawPlays" = some 3 := by kernel_rfl
theorem drawPlays_goes : false = Rows.drawPlaysRow.goesBy Tryz.prog := by
 have h : ∀ f, Tryz.prog.goes f = false := fun f => by
  unfold Program.goes
  rw [drawPlays_gf, Bool.and_false, Bool.or_false, List.any_eq_false]
  intro g _
  cases hg : Tryz.prog.funcs[g]? with
  | none => simp
  | some fn =>
   have := Array.any_eq_false.1 drawPlays_gf
   obtain ⟨hi, rfl⟩ := Array.getElem?_eq_some_iff.1 hg
   simpa using this g hi
 show false = ((Tryz.prog.funcNamed Rows.drawPlaysRow.func).any Tryz.prog.goes || false)
 cases Tryz.prog.funcNamed Rows.drawPlaysRow.func with
 | none => rfl
 | some f => simp [h]
theorem drawPlays_closed : joinedFacts Tryz.prog 3 Tryz.f3 (Rows.drawPlaysSpec) Rows.drawPlaysRow = true := by
 unfold joinedFacts
 rw [may_enter, make_is, lifts_is, drawPlays_rec, drawPlays_la, drawPlays_ma, drawPlays_inp, drawPlays_unf, drawPlays_nam]
 kernel_rfl
theorem drawPlays_said : Rows.DrawPlaysSaid :=
 OpenClaim.holds_of_wide 3 Tryz.f3 rfl rfl rfl rfl rfl rfl rfl ⟨rfl, rfl, rfl, rfl, rfl⟩ rfl rfl rfl rfl rfl (by kernel_rfl) Tryz.func3 (by first | exact drawPlays_closed | kernel_rfl)
  (of_decide_eq_true (by kernel_rfl)) (by unfold Func.isWrapper; first | (rw [if_pos (by decide +kernel)]; kernel_rfl) | (rw [if_neg (by decide +kernel)]; exact ⟨rfl, rfl⟩))
  (fun os started H enc _ => drawPlays_lifted os started H enc)
end Go.Proofs.YteaillmjldoajaaGreatDoor
