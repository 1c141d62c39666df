/- M13 -/
import Derived.Test.YtconieddcjpbjaaGreatDoorFrame
import Derived.Test.YtconieddcjpbjaaGreatDoorNds
import Derived.ChangeSame
import Derived.Test.YtconieddcjpbjaaGreatDoorR12
import Derived.Test.YtconieddcjpbjaaGreatDoorRefN
import Derived.Test.YtconieddcjpbjaaGreatDoorL13
import Derived.Test.YtconieddcjpbjaaGreatDoorQ13
import Derived.Test.YtconieddcjpbjaaGreatDoorR13
set_option maxRecDepth 100000
set_option maxHeartbeats 4000000
namespace Go.Proofs.YtconieddcjpbjaaGreatDoor
open Go.ChangeShapes Go.WideShapes Go.ChangeAt Go.RowKit
set_option linter.unusedVariables false
set_option linter.unusedSimpArgs false
end Go.Proofs.YtconieddcjpbjaaGreatDoor
namespace Go.Proofs.YtconieddcjpbjaaGreatDoor
open Go.ChangeShapes Go.WideShapes Go.ChangeAt Go.RowKit
set_option linter.unusedVariables false
set_option linter.unusedSimpArgs false
theorem open_nodeb {H : Type} {enc : TypeId × Value → H} {W : World} {base : Nat} {sp : Nat → Bool} {held : Bool} {r : Reach} {b0 : Nat} {v : Value} {d : DataW H} {ps : List MemPlace}
  (hval : Value.okWide Tryz.prog W r b0 26 v) (hd : DataW.Trod enc Tryz.prog W base sp held 26 v d ps) :
  ∃ a b : Int, v = .agg #[.int .i64 a, .int .i64 b] ∧ (Lit.int .i64 a).wf = true ∧ (Lit.int .i64 b).wf = true := by
 unfold Value.okWide at hval
 rw [Tryz.underlying26] at hval
 obtain ⟨cs, rfl, hsz, _⟩ := hval
 rw [show Tryz.prog.cellsOf 26 = 2 by kernel_rfl] at hsz
 obtain ⟨fuel, hf⟩ := hd
 obtain ⟨y0, y1, n, _, hl, e0, e1⟩ := trod_struct2 Tryz.underlying26 hf
 have ec : Tryz.prog.cellsOf 3 = 1 := by kernel_rfl
 have E0 : DataW.trod enc Tryz.prog W base sp held n 3 ((cs.toList.drop 0).take (Tryz.prog.cellsOf 3)) = some y0 := e0
 have E1 : DataW.trod enc Tryz.prog W base sp held n 3 ((cs.toList.drop 1).take (Tryz.prog.cellsOf 3)) = some y1 := e1
 rw [ec] at E0 E1
 obtain ⟨a, ha, -, wa⟩ := DataW.trod_int Tryz.underlying3 E0
 obtain ⟨b, hb, -, wb⟩ := DataW.trod_int Tryz.underlying3 E1
 obtain ⟨l⟩ := cs
 match l, hsz with
 | [u, v], _ =>
  simp at ha hb
  subst ha
  subst hb
  exact ⟨a, b, rfl, wa, wb⟩
end Go.Proofs.YtconieddcjpbjaaGreatDoor
namespace Go.Proofs.YtconieddcjpbjaaGreatDoor
open Go.RowKit
theorem rsharedC : zqei := fun k p W hk hp => zqsu k p W hk hp rfl
theorem rbaseC : zqi0 := fun k W hk => rbase_any k W hk
end Go.Proofs.YtconieddcjpbjaaGreatDoor
set_option maxRecDepth 100000
set_option maxHeartbeats 4000000
namespace Go.Proofs.YtconieddcjpbjaaGreatDoor
open Go.RowKit
set_option linter.unusedVariables false
set_option linter.unusedSimpArgs false
@[go_sem high] theorem neq_kp0' (w : World) : (binOp .neq 39 (.agg (ints .u8 64 (keysF zqd zqd))) (.agg (ints .u8 64 (keysF zqd zqd)))).run Tryz.prog w = .ok (.bool false) w := by kernel_rfl
@[go_sem ↓ high] theorem neq_kp0 (w : World) : (binOp .neq 39 (.agg (ints .u8 64 (keysF zqd zqd))) (.agg (ints .u8 64 (keysF zqd zqd)))).run Tryz.prog w = .ok (.bool false) w := by kernel_rfl
attribute [local irreducible] nodeF zqce oneF macF shaF strOf keyV shV pubV upF upOK pubF
theorem makes13_y (oa : Option Addr) (n c m q cl : Nat) (j a b ix : Int) (fb : Bool) (F Z PR PU : Nat → Nat → Int) (s R0 sk pz : Nat → Int) (J : Nat) (F1 PR1 PU1 : Nat → Nat → Int) (R1 : Nat → Int) (hj : j = (J : Int)) (hJ : J < n) (hF1 : updR F J s = F1) (w : World) (hT : Tabs w) (hK : K32At w oa n F) (h2 : 2 ≤ n) (h6 : n ≤ 6) (hq : q ≤ 1000) (hcl : cl ≤ 1000)
  (aw : ∀ W : World, Tabs W → Calls Tryz.prog 8 #[] W fun e w' => e = .returned (.bool true) ∧ Below W.heap.size W w')
  (cMk : ∀ W : World, K32At W oa n F → Tabs W → Calls Tryz.prog 9 #[.slice oa n c] W fun e w' => ∃ g c2, e = .returned (.tuple #[.agg #[.slice (some ⟨g, 0, none⟩) m c2], .bool true]) ∧ Row64 w' g m PR ∧ Below W.heap.size W w')
  (cKy : ∀ W : World, K32At W oa n F → Calls Tryz.prog 13 #[.slice oa n c] W fun e w' => ∃ gd cd, e = .returned (.slice (some ⟨gd, 0, none⟩) n cd) ∧ W.heap.size ≤ gd ∧ Row32 23 w' gd n F ∧ Below W.heap.size W w')
  (cPr : ∀ (g c2 : Nat) (W : World), Row64 W g m PR → Calls Tryz.prog 14 #[.agg #[.slice (some ⟨g, 0, none⟩) m c2], .agg #[.int .i64 a, .int .i64 b]] W fun e w' => e = .returned (.tuple #[.agg (ints .u8 64 (keysF sk pz)), .bool fb]) ∧ Below W.heap.size W w')
  (cIx : ∀ W : World, Calls Tryz.prog 15 #[.int .i64 (n : Int), .agg #[.int .i64 a, .int .i64 b]] W fun e w' => e = .returned (.int .i64 ix) ∧ Below W.heap.size W w')
  (hFd : Hid ((∃ i : Nat, fb = true ∧ pz = pubF sk ∧ ix = (i : Int) ∧ (∀ (gd cd : Nat) (W : World), K32At W (some ⟨gd, 0, none⟩) n F → Calls Tryz.prog 16 #[.slice (some ⟨gd, 0, none⟩) n cd, .agg #[.int .i64 a, .int .i64 b]] W fun e w' => e = .returned (.agg (ints .u8 32 sk)) ∧ Below W.heap.size W w') ∧ ∀ W : World, Calls Tryz.prog 17 #[.agg (ints .u8 64 (keysF sk (pubF sk)))] W fun e w' => e = .returned (.bool true) ∧ Below W.heap.size W w') ∨ (fb = false ∧ sk = zqd ∧ pz = zqd ∧ ix = -1)))
  (cN : ∀ (g c2 : Nat) (W : World), Calls Tryz.prog 10 #[.agg #[.slice (some ⟨g, 0, none⟩) m c2]] W fun e w' => e = .returned (.int .i64 n) ∧ Below W.heap.size W w')
  (cRt : ∀ (g c2 : Nat) (W : World), Row64 W g m PR → Calls Tryz.prog 11 #[.agg #[.slice (some ⟨g, 0, none⟩) m c2]] W fun e w' => e = .returned (.agg (ints .u8 32 R0)) ∧ Below W.heap.size W w')
  (cRR : ∀ (gd cd : Nat) (W : World), K32At W (some ⟨gd, 0, none⟩) n F → Calls Tryz.prog 18 #[.slice (some ⟨gd, 0, none⟩) n cd] W fun e w' => e = .returned (.agg (ints .u8 32 R0)) ∧ Below W.heap.size W w')
  (cPu : ∀ (g c2 : Nat) (W : World), Row64 W g m PR → Calls Tryz.prog 12 #[.agg #[.slice (some ⟨g, 0, none⟩) m c2]] W (zqde W q PU))
  (cRP : ∀ (gd cd : Nat) (W : World), K32At W (some ⟨gd, 0, none⟩) n F → Calls Tryz.prog 20 #[.slice (some ⟨gd, 0, none⟩) n cd] W (zqde W q PU))
  (cCp : ∀ (g c2 : Nat) (W : World), Row64 W g m PR → Calls Tryz.prog 21 #[.agg #[.slice (some ⟨g, 0, none⟩) m c2], .int .i64 j] W (zqde W cl Z))
  (cRC : ∀ (gd cd : Nat) (W : World), K32At W (some ⟨gd, 0, none⟩) n F → Calls Tryz.prog 22 #[.slice (some ⟨gd, 0, none⟩) n cd, .int .i64 j] W (zqde W cl Z))
  (cRe : ∀ (g c2 : Nat) (W : World), Row64 W g m PR → Tabs W → Calls Tryz.prog 23 #[.agg #[.slice (some ⟨g, 0, none⟩) m c2], .int .i64 j, .agg (ints .u8 32 s)] W fun e w' => ∃ g2 c3, e = .returned (.tuple #[.agg #[.slice (some ⟨g2, 0, none⟩) m c3], .bool true]) ∧ Row64 w' g2 m PR1 ∧ Below W.heap.size W w')
  (cRt1 : ∀ (g c2 : Nat) (W : World), Row64 W g m PR1 → Calls Tryz.prog 11 #[.agg #[.slice (some ⟨g, 0, none⟩) m c2]] W fun e w' => e = .returned (.agg (ints .u8 32 R1)) ∧ Below W.heap.size W w')
  (cRR1 : ∀ (gd cd : Nat) (W : World), K32At W (some ⟨gd, 0, none⟩) n F1 → Calls Tryz.prog 18 #[.slice (some ⟨gd, 0, none⟩) n cd] W fun e w' => e = .returned (.agg (ints .u8 32 R1)) ∧ Below W.heap.size W w')
  (cPu1 : ∀ (g c2 : Nat) (W : World), Row64 W g m PR1 → Calls Tryz.prog 12 #[.agg #[.slice (some ⟨g, 0, none⟩) m c2]] W (zqde W q PU1))
  (cRP1 : ∀ (gd cd : Nat) (W : World), K32At W (some ⟨gd, 0, none⟩) n F1 → Calls Tryz.prog 20 #[.slice (some ⟨gd, 0, none⟩) n cd] W (zqde W q PU1)) :
  Calls Tryz.prog 3 #[.slice oa n c, .int .i64 j, .agg (ints .u8 32 s), .agg #[.int .i64 a, .int .i64 b]] w fun e w' => e = .returned (.bool true) ∧ Below w.heap.size w w' := by
 subst hj
 have hTT : Hid (Tabs w) := hT
 have HK : Hid (K32At w oa n F) := hK
 clear hT hK
 have hn2 : (2 : Int) ≤ (n : Int) := by omega
 have hn6 : ¬ ((6 : Int) < (n : Int)) := by omega
 have hn2' : ¬ ((n : Int) < 2) := by omega
 have hsm := zqb6 32 R0
 have hsk := zqb6 32 sk
 have hsm1 := zqb6 32 R1
 have hG := Grew.refl w
 have fs : True := trivial
 have fv : True := trivial
 go_enter Tryz.func3, Tryz.ntmps3
 go_wp2_with fail
 replace fs : objAt ((w.alloc (.cells (ints .u8 32 (s)) 24)).alloc (.cells #[.int .i64 a, .int .i64 b] 26)) (w.heap.size) = some (.cells (ints .u8 32 (s)) 24) := by exact zqc
 replace fv : objAt ((w.alloc (.cells (ints .u8 32 (s)) 24)).alloc (.cells #[.int .i64 a, .int .i64 b] 26)) (w.heap.size + 1) = some (.cells #[.int .i64 a, .int .i64 b] 26) := by exact zqc
 replace hG : Below w.heap.size w ((w.alloc (.cells (ints .u8 32 (s)) 24)).alloc (.cells #[.int .i64 a, .int .i64 b] 26)) := by exact zqe
 generalize (w.alloc (.cells (ints .u8 32 (s)) 24)).alloc (.cells #[.int .i64 a, .int .i64 b] 26) = w1 at *
 have lfs := zqa fs
 have lfv := zqa fv
 go_wp2_with fail
 refine (aw _ (hTT.out.later hG)).mono ?_
 rintro e w2 ⟨rfl, hb⟩
 replace fs := zqb hb fs
 replace fv := zqb hb fv
 replace lfs := zqa fs
 replace lfv := zqa fv
 replace hG := Grew.trans hG hb
 clear hb
 go_wp2_with fail
 refine (cMk _ (HK.out.later hG) (hTT.out.later hG)).mono ?_
 rintro e w3 ⟨g, c2, rfl, hR, hb⟩
 replace fs := zqb hb fs
 replace fv := zqb hb fv
 replace lfs := zqa fs
 replace lfv := zqa fv
 replace hG := Grew.trans hG hb
 have HR : Hid (Row64 w3 g m PR) := hR
 clear hb hR cMk aw
 go_wp2_with fail
 have hb : Below w3.heap.size w3 (w3.alloc (.cells #[.slice (some ⟨g, 0, none⟩) m c2] 30)) := Grew.alloc (Grew.refl _) _
 have ft : objAt (w3.alloc (.cells #[.slice (some ⟨g, 0, none⟩) m c2] 30)) w3.heap.size = some (.cells #[.slice (some ⟨g, 0, none⟩) m c2] 30) := zqh _ _ _ rfl
 replace fs := zqb hb fs
 replace fv := zqb hb fv
 replace HR := hid1 (HR.out.later hb)
 replace lfs := zqa fs
 replace lfv := zqa fv
 replace hG := Grew.trans hG hb
 clear hb
 generalize w3.alloc (.cells #[.slice (some ⟨g, 0, none⟩) m c2] 30) = w4 at *
 generalize w3.heap.size = gt at *
 have lft := zqa ft
 have hsz := hG.size
 go_wp2_with fail
 refine (cKy _ (HK.out.later hG)).mono ?_
 rintro e w5 ⟨gd, cd, rfl, hgd, hD, hb⟩
 replace fs := zqb hb fs
 replace fv := zqb hb fv
 replace ft := zqb hb ft
 replace HR := hid1 (HR.out.later hb)
 replace lfs := zqa fs
 replace lfv := zqa fv
 replace lft := zqa ft
 replace hG := Grew.trans hG hb
 have HD : Hid (Row32 23 w5 gd n F) := hD
 clear hb hD cKy
 have hgd0 : w.heap.size ≤ gd := Nat.le_trans hsz hgd
 clear hsz hgd
 go_wp2_with fail
 refine (cPr g c2 _ HR.out).mono ?_
 rintro e w6 ⟨rfl, hb⟩
 replace fs := zqb hb fs
 replace fv := zqb hb fv
 replace ft := zqb hb ft
 replace HR := hid1 (HR.out.later hb)
 replace HD := hid1 (HD.out.later hb)
 replace lfs := zqa fs
 replace lfv := zqa fv
 replace lft := zqa ft
 replace hG := Grew.trans hG hb
 clear hb
 go_wp2_with fail
 have hb : Below w6.heap.size w6 (w6.alloc (.cells (ints .u8 64 (keysF (sk) (pz))) 39)) := Grew.alloc (Grew.refl _) _
 have fp : objAt (w6.alloc (.cells (ints .u8 64 (keysF (sk) (pz))) 39)) w6.heap.size = some (.cells (ints .u8 64 (keysF (sk) (pz))) 39) := zqh _ _ _ rfl
 replace fs := zqb hb fs
 replace fv := zqb hb fv
 replace ft := zqb hb ft
 replace HR := hid1 (HR.out.later hb)
 replace HD := hid1 (HD.out.later hb)
 replace lfs := zqa fs
 replace lfv := zqa fv
 replace lft := zqa ft
 replace hG := Grew.trans hG hb
 clear hb
 generalize w6.alloc (.cells (ints .u8 64 (keysF (sk) (pz))) 39) = w7 at *
 generalize w6.heap.size = gp at *
 have lfp := zqa fp
 go_wp2_with fail
 refine (cIx _).mono ?_
 rintro e w8 ⟨rfl, hb⟩
 replace fs := zqb hb fs
 replace fv := zqb hb fv
 replace ft := zqb hb ft
 replace fp := zqb hb fp
 replace HR := hid1 (HR.out.later hb)
 replace HD := hid1 (HD.out.later hb)
 replace lfs := zqa fs
 replace lfv := zqa fv
 replace lft := zqa ft
 replace lfp := zqa fp
 replace hG := Grew.trans hG hb
 clear hb
 clear cPr cIx
 rcases hFd.out with ⟨i, rfl, rfl, rfl, cSec, cRi⟩ | ⟨rfl, rfl, rfl, rfl⟩
 all_goals
  clear hFd
  have hi0 : (0 : Int) ≤ (n : Int) := by omega
  (try have hi1 : (0 : Int) ≤ (i : Int) := by omega)
  (try have cS := fun x : More => cSec gd cd (more w8 x) (HD.out.later (zqj _ x)).k32)
  go_wp2_with fail
  ((first | (with_reducible refine zqw (by kernel_rfl) (by kernel_rfl) ?_) | refine zqs (by kernel_rfl) (by kernel_rfl) ?_); (repeat (first | go_big_quiet_skip | (go_big_quiet_want; go_big_quiet_op; first | go_big_quiet_on | (apply Exists.intro; refine ⟨fun _ => ?_, ?_⟩; (focus (first | (with_reducible exact Calls.of_more (cS _)) | (with_reducible exact Calls.of_more (cRi _)))); go_big_quiet_on)))); refine wpQuiet_nil ?_; rintro _ ⟨mq, rfl⟩)
  have hb : Below w8.heap.size w8 (more w8 mq) := zqj _ mq
  replace fs := zqb hb fs
  replace fv := zqb hb fv
  replace ft := zqb hb ft
  replace fp := zqb hb fp
  replace HR := hid1 (HR.out.later hb)
  replace HD := hid1 (HD.out.later hb)
  replace lfs := zqa fs
  replace lfv := zqa fv
  replace lft := zqa ft
  replace lfp := zqa fp
  replace hG := Grew.trans hG hb
  clear hb
  generalize more w8 mq = w9 at *
  (try clear cS cSec cRi)
  go_wp2_with fail
  refine (cN g c2 _).mono ?_
  rintro e w10 ⟨rfl, hb⟩
  replace fs := zqb hb fs
  replace fv := zqb hb fv
  replace ft := zqb hb ft
  replace fp := zqb hb fp
  replace HR := hid1 (HR.out.later hb)
  replace HD := hid1 (HD.out.later hb)
  replace lfs := zqa fs
  replace lfv := zqa fv
  replace lft := zqa ft
  replace lfp := zqa fp
  replace hG := Grew.trans hG hb
  clear hb
  go_wp2_with fail
  refine (cRt g c2 _ HR.out).mono ?_
  rintro e w11 ⟨rfl, hb⟩
  replace fs := zqb hb fs
  replace fv := zqb hb fv
  replace ft := zqb hb ft
  replace fp := zqb hb fp
  replace HR := hid1 (HR.out.later hb)
  replace HD := hid1 (HD.out.later hb)
  replace lfs := zqa fs
  replace lfv := zqa fv
  replace lft := zqa ft
  replace lfp := zqa fp
  replace hG := Grew.trans hG hb
  clear hb
  go_wp2_with fail
  refine (cRR gd cd _ HD.out.k32).mono ?_
  rintro e w12 ⟨rfl, hb⟩
  replace fs := zqb hb fs
  replace fv := zqb hb fv
  replace ft := zqb hb ft
  replace fp := zqb hb fp
  replace HR := hid1 (HR.out.later hb)
  replace HD := hid1 (HD.out.later hb)
  replace lfs := zqa fs
  replace lfv := zqa fv
  replace lft := zqa ft
  replace lfp := zqa fp
  replace hG := Grew.trans hG hb
  clear hb
  go_wp2_with fail
  refine (cPu g c2 _ HR.out).mono ?_
  rintro e w13 ⟨oA, kA, rfl, hA, hb⟩
  replace fs := zqb hb fs
  replace fv := zqb hb fv
  replace ft := zqb hb ft
  replace fp := zqb hb fp
  replace HR := hid1 (HR.out.later hb)
  replace HD := hid1 (HD.out.later hb)
  replace lfs := zqa fs
  replace lfv := zqa fv
  replace lft := zqa ft
  replace lfp := zqa fp
  replace hG := Grew.trans hG hb
  have HA : Hid (K32At w13 oA q PU) := hA
  clear hb hA
  go_wp2_with fail
  refine (cRP gd cd _ HD.out.k32).mono ?_
  rintro e w14 ⟨oB, kB, rfl, hB, hb⟩
  replace fs := zqb hb fs
  replace fv := zqb hb fv
  replace ft := zqb hb ft
  replace fp := zqb hb fp
  replace HR := hid1 (HR.out.later hb)
  replace HD := hid1 (HD.out.later hb)
  replace HA := hid1 (HA.out.later hb)
  replace lfs := zqa fs
  replace lfv := zqa fv
  replace lft := zqa ft
  replace lfp := zqa fp
  replace hG := Grew.trans hG hb
  have HB : Hid (K32At w14 oB q PU) := hB
  clear hb hB
  go_wp2_with fail
  refine (zqfe oA oB q kA kB PU _ (by omega) HA.out HB.out).mono ?_
  rintro e w15 ⟨rfl, hb⟩
  replace fs := zqb hb fs
  replace fv := zqb hb fv
  replace ft := zqb hb ft
  replace fp := zqb hb fp
  replace HR := hid1 (HR.out.later hb)
  replace HD := hid1 (HD.out.later hb)
  replace HA := hid1 (HA.out.later hb)
  replace HB := hid1 (HB.out.later hb)
  replace lfs := zqa fs
  replace lfv := zqa fv
  replace lft := zqa ft
  replace lfp := zqa fp
  replace hG := Grew.trans hG hb
  clear hb
  clear HA HB
  go_wp2_with fail
  refine (cCp g c2 _ HR.out).mono ?_
  rintro e w16 ⟨oA, kA, rfl, hA, hb⟩
  replace fs := zqb hb fs
  replace fv := zqb hb fv
  replace ft := zqb hb ft
  replace fp := zqb hb fp
  replace HR := hid1 (HR.out.later hb)
  replace HD := hid1 (HD.out.later hb)
  replace lfs := zqa fs
  replace lfv := zqa fv
  replace lft := zqa ft
  replace lfp := zqa fp
  replace hG := Grew.trans hG hb
  have HA : Hid (K32At w16 oA cl Z) := hA
  clear hb hA
  go_wp2_with fail
  refine (cRC gd cd _ HD.out.k32).mono ?_
  rintro e w17 ⟨oB, kB, rfl, hB, hb⟩
  replace fs := zqb hb fs
  replace fv := zqb hb fv
  replace ft := zqb hb ft
  replace fp := zqb hb fp
  replace HR := hid1 (HR.out.later hb)
  replace HD := hid1 (HD.out.later hb)
  replace HA := hid1 (HA.out.later hb)
  replace lfs := zqa fs
  replace lfv := zqa fv
  replace lft := zqa ft
  replace lfp := zqa fp
  replace hG := Grew.trans hG hb
  have HB : Hid (K32At w17 oB cl Z) := hB
  clear hb hB
  go_wp2_with fail
  refine (zqfe oA oB cl kA kB Z _ (by omega) HA.out HB.out).mono ?_
  rintro e w18 ⟨rfl, hb⟩
  replace fs := zqb hb fs
  replace fv := zqb hb fv
  replace ft := zqb hb ft
  replace fp := zqb hb fp
  replace HR := hid1 (HR.out.later hb)
  replace HD := hid1 (HD.out.later hb)
  replace HA := hid1 (HA.out.later hb)
  replace HB := hid1 (HB.out.later hb)
  replace lfs := zqa fs
  replace lfv := zqa fv
  replace lft := zqa ft
  replace lfp := zqa fp
  replace hG := Grew.trans hG hb
  clear hb
  clear HA HB
  clear cRt cRR cPu cRP cCp cRC
  go_wp2_with fail
  refine (cRe g c2 _ HR.out (hTT.out.later hG)).mono ?_
  rintro e w19 ⟨g2, c3, rfl, hR2, hb⟩
  replace fs := zqb hb fs
  replace fv := zqb hb fv
  replace ft := zqb hb ft
  replace fp := zqb hb fp
  replace HR := hid1 (HR.out.later hb)
  replace HD := hid1 (HD.out.later hb)
  replace lfs := zqa fs
  replace lfv := zqa fv
  replace lft := zqa ft
  replace lfp := zqa fp
  replace hG := Grew.trans hG hb
  have HS : Hid (Row64 w19 g2 m PR1) := hR2
  clear hb hR2 cRe
  go_wp2_with fail
  have hb : Below w19.heap.size w19 (w19.alloc (.cells #[.slice (some ⟨g2, 0, none⟩) m c3] 30)) := Grew.alloc (Grew.refl _) _
  have fu : objAt (w19.alloc (.cells #[.slice (some ⟨g2, 0, none⟩) m c3] 30)) w19.heap.size = some (.cells #[.slice (some ⟨g2, 0, none⟩) m c3] 30) := zqh _ _ _ rfl
  replace fs := zqb hb fs
  replace fv := zqb hb fv
  replace ft := zqb hb ft
  replace fp := zqb hb fp
  replace HR := hid1 (HR.out.later hb)
  replace HD := hid1 (HD.out.later hb)
  replace HS := hid1 (HS.out.later hb)
  replace lfs := zqa fs
  replace lfv := zqa fv
  replace lft := zqa ft
  replace lfp := zqa fp
  replace hG := Grew.trans hG hb
  clear hb
  generalize w19.alloc (.cells #[.slice (some ⟨g2, 0, none⟩) m c3] 30) = w20 at *
  generalize w19.heap.size = gu at *
  have lfu := zqa fu
  have hj1 : ¬ ((J : Int) < 0) := by omega
  have hj2 : ¬ ((n : Int) ≤ (J : Int)) := by omega
  have hj3 : (J : Int) < (n : Int) := by omega
  have hj4 : (0 : Int) ≤ (J : Int) := by omega
  obtain ⟨cs, hst, hD1⟩ := Row32.store (by kernel_rfl) HD.out hJ s
  rw [hF1] at hD1
  have hnu : ¬ (gu = gd) := fun e => by
   obtain ⟨cur, h, _⟩ := HD.out
   rw [← e, fu] at h
   cases h
  have hns : ¬ (g2 = gd) := fun e => by
   obtain ⟨cur, h, _⟩ := HD.out
   obtain ⟨cur2, h2, _⟩ := HS.out
   rw [← e, h2] at h
   cases h
  have HD1 : Hid (Row32 23 (w20.setRow gd cs) gd n F1) := hD1
  have HS1 : Hid (Row64 (w20.setRow gd cs) g2 m PR1) := HS.out.by (zqal _ _ _ _ hns)
  clear hD1 HD HS HR hns
  go_wp2_with fail
  replace fu := zqg gd cs fu hnu
  replace hG : Below w.heap.size w (w20.setRow gd cs) := Grew.setRow hG _ _ hgd0
  clear ft lft fp lfp fs lfs fv lfv hst lfu hnu
  generalize w20.setRow gd cs = w40 at *
  have lfu := zqa fu
  go_wp2_with fail
  refine (cRt1 g2 c3 _ HS1.out).mono ?_
  rintro e w21 ⟨rfl, hb⟩
  replace fu := zqb hb fu
  replace HD1 := hid1 (HD1.out.later hb)
  replace HS1 := hid1 (HS1.out.later hb)
  replace lfu := zqa fu
  replace hG := Grew.trans hG hb
  clear hb
  go_wp2_with fail
  refine (cRR1 gd cd _ HD1.out.k32).mono ?_
  rintro e w22 ⟨rfl, hb⟩
  replace fu := zqb hb fu
  replace HD1 := hid1 (HD1.out.later hb)
  replace HS1 := hid1 (HS1.out.later hb)
  replace lfu := zqa fu
  replace hG := Grew.trans hG hb
  clear hb
  go_wp2_with fail
  refine (cPu1 g2 c3 _ HS1.out).mono ?_
  rintro e w23 ⟨oA, kA, rfl, hA, hb⟩
  replace fu := zqb hb fu
  replace HD1 := hid1 (HD1.out.later hb)
  replace HS1 := hid1 (HS1.out.later hb)
  replace lfu := zqa fu
  replace hG := Grew.trans hG hb
  have HA : Hid (K32At w23 oA q PU1) := hA
  clear hb hA
  go_wp2_with fail
  refine (cRP1 gd cd _ HD1.out.k32).mono ?_
  rintro e w24 ⟨oB, kB, rfl, hB, hb⟩
  replace fu := zqb hb fu
  replace HD1 := hid1 (HD1.out.later hb)
  replace HS1 := hid1 (HS1.out.later hb)
  replace HA := hid1 (HA.out.later hb)
  replace lfu := zqa fu
  replace hG := Grew.trans hG hb
  have HB : Hid (K32At w24 oB q PU1) := hB
  clear hb hB
  go_wp2_with fail
  refine (zqfe oA oB q kA kB PU1 _ (by omega) HA.out HB.out).mono ?_
  rintro e w25 ⟨rfl, hb⟩
  replace fu := zqb hb fu
  replace HD1 := hid1 (HD1.out.later hb)
  replace HS1 := hid1 (HS1.out.later hb)
  replace HA := hid1 (HA.out.later hb)
  replace HB := hid1 (HB.out.later hb)
  replace lfu := zqa fu
  replace hG := Grew.trans hG hb
  clear hb
  clear HA HB
  go_wp2
  go_ret
  exact ⟨rfl, hG⟩
theorem makes13_n (oa : Option Addr) (n c m q cl : Nat) (j a b ix : Int) (fb : Bool) (F Z PR PU : Nat → Nat → Int) (s R0 sk pz : Nat → Int) (hj : ¬ (0 ≤ j ∧ j < n)) (w : World) (hT : Tabs w) (hK : K32At w oa n F) (h2 : 2 ≤ n) (h6 : n ≤ 6) (hq : q ≤ 1000) (hcl : cl ≤ 1000)
  (aw : ∀ W : World, Tabs W → Calls Tryz.prog 8 #[] W fun e w' => e = .returned (.bool true) ∧ Below W.heap.size W w')
  (cMk : ∀ W : World, K32At W oa n F → Tabs W → Calls Tryz.prog 9 #[.slice oa n c] W fun e w' => ∃ g c2, e = .returned (.tuple #[.agg #[.slice (some ⟨g, 0, none⟩) m c2], .bool true]) ∧ Row64 w' g m PR ∧ Below W.heap.size W w')
  (cKy : ∀ W : World, K32At W oa n F → Calls Tryz.prog 13 #[.slice oa n c] W fun e w' => ∃ gd cd, e = .returned (.slice (some ⟨gd, 0, none⟩) n cd) ∧ W.heap.size ≤ gd ∧ Row32 23 w' gd n F ∧ Below W.heap.size W w')
  (cPr : ∀ (g c2 : Nat) (W : World), Row64 W g m PR → Calls Tryz.prog 14 #[.agg #[.slice (some ⟨g, 0, none⟩) m c2], .agg #[.int .i64 a, .int .i64 b]] W fun e w' => e = .returned (.tuple #[.agg (ints .u8 64 (keysF sk pz)), .bool fb]) ∧ Below W.heap.size W w')
  (cIx : ∀ W : World, Calls Tryz.prog 15 #[.int .i64 (n : Int), .agg #[.int .i64 a, .int .i64 b]] W fun e w' => e = .returned (.int .i64 ix) ∧ Below W.heap.size W w')
  (hFd : Hid ((∃ i : Nat, fb = true ∧ pz = pubF sk ∧ ix = (i : Int) ∧ (∀ (gd cd : Nat) (W : World), K32At W (some ⟨gd, 0, none⟩) n F → Calls Tryz.prog 16 #[.slice (some ⟨gd, 0, none⟩) n cd, .agg #[.int .i64 a, .int .i64 b]] W fun e w' => e = .returned (.agg (ints .u8 32 sk)) ∧ Below W.heap.size W w') ∧ ∀ W : World, Calls Tryz.prog 17 #[.agg (ints .u8 64 (keysF sk (pubF sk)))] W fun e w' => e = .returned (.bool true) ∧ Below W.heap.size W w') ∨ (fb = false ∧ sk = zqd ∧ pz = zqd ∧ ix = -1)))
  (cN : ∀ (g c2 : Nat) (W : World), Calls Tryz.prog 10 #[.agg #[.slice (some ⟨g, 0, none⟩) m c2]] W fun e w' => e = .returned (.int .i64 n) ∧ Below W.heap.size W w')
  (cRt : ∀ (g c2 : Nat) (W : World), Row64 W g m PR → Calls Tryz.prog 11 #[.agg #[.slice (some ⟨g, 0, none⟩) m c2]] W fun e w' => e = .returned (.agg (ints .u8 32 R0)) ∧ Below W.heap.size W w')
  (cRR : ∀ (gd cd : Nat) (W : World), K32At W (some ⟨gd, 0, none⟩) n F → Calls Tryz.prog 18 #[.slice (some ⟨gd, 0, none⟩) n cd] W fun e w' => e = .returned (.agg (ints .u8 32 R0)) ∧ Below W.heap.size W w')
  (cPu : ∀ (g c2 : Nat) (W : World), Row64 W g m PR → Calls Tryz.prog 12 #[.agg #[.slice (some ⟨g, 0, none⟩) m c2]] W (zqde W q PU))
  (cRP : ∀ (gd cd : Nat) (W : World), K32At W (some ⟨gd, 0, none⟩) n F → Calls Tryz.prog 20 #[.slice (some ⟨gd, 0, none⟩) n cd] W (zqde W q PU))
  (cCp : ∀ (g c2 : Nat) (W : World), Row64 W g m PR → Calls Tryz.prog 21 #[.agg #[.slice (some ⟨g, 0, none⟩) m c2], .int .i64 j] W (zqde W cl Z))
  (cRC : ∀ (gd cd : Nat) (W : World), K32At W (some ⟨gd, 0, none⟩) n F → Calls Tryz.prog 22 #[.slice (some ⟨gd, 0, none⟩) n cd, .int .i64 j] W (zqde W cl Z))
  (cRe : ∀ (g c2 : Nat) (W : World), Row64 W g m PR → Tabs W → Calls Tryz.prog 23 #[.agg #[.slice (some ⟨g, 0, none⟩) m c2], .int .i64 j, .agg (ints .u8 32 s)] W fun e w' => e = .returned (.tuple #[.agg #[.slice none 0 0], .bool false]) ∧ Below W.heap.size W w') :
  Calls Tryz.prog 3 #[.slice oa n c, .int .i64 j, .agg (ints .u8 32 s), .agg #[.int .i64 a, .int .i64 b]] w fun e w' => e = .returned (.bool true) ∧ Below w.heap.size w w' := by
 have hTT : Hid (Tabs w) := hT
 have HK : Hid (K32At w oa n F) := hK
 clear hT hK
 have hn2 : (2 : Int) ≤ (n : Int) := by omega
 have hn6 : ¬ ((6 : Int) < (n : Int)) := by omega
 have hn2' : ¬ ((n : Int) < 2) := by omega
 have hsm := zqb6 32 R0
 have hsk := zqb6 32 sk
 have hG := Grew.refl w
 have fs : True := trivial
 have fv : True := trivial
 go_enter Tryz.func3, Tryz.ntmps3
 go_wp2_with fail
 replace fs : objAt ((w.alloc (.cells (ints .u8 32 (s)) 24)).alloc (.cells #[.int .i64 a, .int .i64 b] 26)) (w.heap.size) = some (.cells (ints .u8 32 (s)) 24) := by exact zqc
 replace fv : objAt ((w.alloc (.cells (ints .u8 32 (s)) 24)).alloc (.cells #[.int .i64 a, .int .i64 b] 26)) (w.heap.size + 1) = some (.cells #[.int .i64 a, .int .i64 b] 26) := by exact zqc
 replace hG : Below w.heap.size w ((w.alloc (.cells (ints .u8 32 (s)) 24)).alloc (.cells #[.int .i64 a, .int .i64 b] 26)) := by exact zqe
 generalize (w.alloc (.cells (ints .u8 32 (s)) 24)).alloc (.cells #[.int .i64 a, .int .i64 b] 26) = w1 at *
 have lfs := zqa fs
 have lfv := zqa fv
 go_wp2_with fail
 refine (aw _ (hTT.out.later hG)).mono ?_
 rintro e w2 ⟨rfl, hb⟩
 replace fs := zqb hb fs
 replace fv := zqb hb fv
 replace lfs := zqa fs
 replace lfv := zqa fv
 replace hG := Grew.trans hG hb
 clear hb
 go_wp2_with fail
 refine (cMk _ (HK.out.later hG) (hTT.out.later hG)).mono ?_
 rintro e w3 ⟨g, c2, rfl, hR, hb⟩
 replace fs := zqb hb fs
 replace fv := zqb hb fv
 replace lfs := zqa fs
 replace lfv := zqa fv
 replace hG := Grew.trans hG hb
 have HR : Hid (Row64 w3 g m PR) := hR
 clear hb hR cMk aw
 go_wp2_with fail
 have hb : Below w3.heap.size w3 (w3.alloc (.cells #[.slice (some ⟨g, 0, none⟩) m c2] 30)) := Grew.alloc (Grew.refl _) _
 have ft : objAt (w3.alloc (.cells #[.slice (some ⟨g, 0, none⟩) m c2] 30)) w3.heap.size = some (.cells #[.slice (some ⟨g, 0, none⟩) m c2] 30) := zqh _ _ _ rfl
 replace fs := zqb hb fs
 replace fv := zqb hb fv
 replace HR := hid1 (HR.out.later hb)
 replace lfs := zqa fs
 replace lfv := zqa fv
 replace hG := Grew.trans hG hb
 clear hb
 generalize w3.alloc (.cells #[.slice (some ⟨g, 0, none⟩) m c2] 30) = w4 at *
 generalize w3.heap.size = gt at *
 have lft := zqa ft
 have hsz := hG.size
 go_wp2_with fail
 refine (cKy _ (HK.out.later hG)).mono ?_
 rintro e w5 ⟨gd, cd, rfl, hgd, hD, hb⟩
 replace fs := zqb hb fs
 replace fv := zqb hb fv
 replace ft := zqb hb ft
 replace HR := hid1 (HR.out.later hb)
 replace lfs := zqa fs
 replace lfv := zqa fv
 replace lft := zqa ft
 replace hG := Grew.trans hG hb
 have HD : Hid (Row32 23 w5 gd n F) := hD
 clear hb hD cKy
 have hgd0 : w.heap.size ≤ gd := Nat.le_trans hsz hgd
 clear hsz hgd
 go_wp2_with fail
 refine (cPr g c2 _ HR.out).mono ?_
 rintro e w6 ⟨rfl, hb⟩
 replace fs := zqb hb fs
 replace fv := zqb hb fv
 replace ft := zqb hb ft
 replace HR := hid1 (HR.out.later hb)
 replace HD := hid1 (HD.out.later hb)
 replace lfs := zqa fs
 replace lfv := zqa fv
 replace lft := zqa ft
 replace hG := Grew.trans hG hb
 clear hb
 go_wp2_with fail
 have hb : Below w6.heap.size w6 (w6.alloc (.cells (ints .u8 64 (keysF (sk) (pz))) 39)) := Grew.alloc (Grew.refl _) _
 have fp : objAt (w6.alloc (.cells (ints .u8 64 (keysF (sk) (pz))) 39)) w6.heap.size = some (.cells (ints .u8 64 (keysF (sk) (pz))) 39) := zqh _ _ _ rfl
 replace fs := zqb hb fs
 replace fv := zqb hb fv
 replace ft := zqb hb ft
 replace HR := hid1 (HR.out.later hb)
 replace HD := hid1 (HD.out.later hb)
 replace lfs := zqa fs
 replace lfv := zqa fv
 replace lft := zqa ft
 replace hG := Grew.trans hG hb
 clear hb
 generalize w6.alloc (.cells (ints .u8 64 (keysF (sk) (pz))) 39) = w7 at *
 generalize w6.heap.size = gp at *
 have lfp := zqa fp
 go_wp2_with fail
 refine (cIx _).mono ?_
 rintro e w8 ⟨rfl, hb⟩
 replace fs := zqb hb fs
 replace fv := zqb hb fv
 replace ft := zqb hb ft
 replace fp := zqb hb fp
 replace HR := hid1 (HR.out.later hb)
 replace HD := hid1 (HD.out.later hb)
 replace lfs := zqa fs
 replace lfv := zqa fv
 replace lft := zqa ft
 replace lfp := zqa fp
 replace hG := Grew.trans hG hb
 clear hb
 clear cPr cIx
 rcases hFd.out with ⟨i, rfl, rfl, rfl, cSec, cRi⟩ | ⟨rfl, rfl, rfl, rfl⟩
 all_goals
  clear hFd
  have hi0 : (0 : Int) ≤ (n : Int) := by omega
  (try have hi1 : (0 : Int) ≤ (i : Int) := by omega)
  (try have cS := fun x : More => cSec gd cd (more w8 x) (HD.out.later (zqj _ x)).k32)
  go_wp2_with fail
  ((first | (with_reducible refine zqw (by kernel_rfl) (by kernel_rfl) ?_) | refine zqs (by kernel_rfl) (by kernel_rfl) ?_); (repeat (first | go_big_quiet_skip | (go_big_quiet_want; go_big_quiet_op; first | go_big_quiet_on | (apply Exists.intro; refine ⟨fun _ => ?_, ?_⟩; (focus (first | (with_reducible exact Calls.of_more (cS _)) | (with_reducible exact Calls.of_more (cRi _)))); go_big_quiet_on)))); refine wpQuiet_nil ?_; rintro _ ⟨mq, rfl⟩)
  have hb : Below w8.heap.size w8 (more w8 mq) := zqj _ mq
  replace fs := zqb hb fs
  replace fv := zqb hb fv
  replace ft := zqb hb ft
  replace fp := zqb hb fp
  replace HR := hid1 (HR.out.later hb)
  replace HD := hid1 (HD.out.later hb)
  replace lfs := zqa fs
  replace lfv := zqa fv
  replace lft := zqa ft
  replace lfp := zqa fp
  replace hG := Grew.trans hG hb
  clear hb
  generalize more w8 mq = w9 at *
  (try clear cS cSec cRi)
  go_wp2_with fail
  refine (cN g c2 _).mono ?_
  rintro e w10 ⟨rfl, hb⟩
  replace fs := zqb hb fs
  replace fv := zqb hb fv
  replace ft := zqb hb ft
  replace fp := zqb hb fp
  replace HR := hid1 (HR.out.later hb)
  replace HD := hid1 (HD.out.later hb)
  replace lfs := zqa fs
  replace lfv := zqa fv
  replace lft := zqa ft
  replace lfp := zqa fp
  replace hG := Grew.trans hG hb
  clear hb
  go_wp2_with fail
  refine (cRt g c2 _ HR.out).mono ?_
  rintro e w11 ⟨rfl, hb⟩
  replace fs := zqb hb fs
  replace fv := zqb hb fv
  replace ft := zqb hb ft
  replace fp := zqb hb fp
  replace HR := hid1 (HR.out.later hb)
  replace HD := hid1 (HD.out.later hb)
  replace lfs := zqa fs
  replace lfv := zqa fv
  replace lft := zqa ft
  replace lfp := zqa fp
  replace hG := Grew.trans hG hb
  clear hb
  go_wp2_with fail
  refine (cRR gd cd _ HD.out.k32).mono ?_
  rintro e w12 ⟨rfl, hb⟩
  replace fs := zqb hb fs
  replace fv := zqb hb fv
  replace ft := zqb hb ft
  replace fp := zqb hb fp
  replace HR := hid1 (HR.out.later hb)
  replace HD := hid1 (HD.out.later hb)
  replace lfs := zqa fs
  replace lfv := zqa fv
  replace lft := zqa ft
  replace lfp := zqa fp
  replace hG := Grew.trans hG hb
  clear hb
  go_wp2_with fail
  refine (cPu g c2 _ HR.out).mono ?_
  rintro e w13 ⟨oA, kA, rfl, hA, hb⟩
  replace fs := zqb hb fs
  replace fv := zqb hb fv
  replace ft := zqb hb ft
  replace fp := zqb hb fp
  replace HR := hid1 (HR.out.later hb)
  replace HD := hid1 (HD.out.later hb)
  replace lfs := zqa fs
  replace lfv := zqa fv
  replace lft := zqa ft
  replace lfp := zqa fp
  replace hG := Grew.trans hG hb
  have HA : Hid (K32At w13 oA q PU) := hA
  clear hb hA
  go_wp2_with fail
  refine (cRP gd cd _ HD.out.k32).mono ?_
  rintro e w14 ⟨oB, kB, rfl, hB, hb⟩
  replace fs := zqb hb fs
  replace fv := zqb hb fv
  replace ft := zqb hb ft
  replace fp := zqb hb fp
  replace HR := hid1 (HR.out.later hb)
  replace HD := hid1 (HD.out.later hb)
  replace HA := hid1 (HA.out.later hb)
  replace lfs := zqa fs
  replace lfv := zqa fv
  replace lft := zqa ft
  replace lfp := zqa fp
  replace hG := Grew.trans hG hb
  have HB : Hid (K32At w14 oB q PU) := hB
  clear hb hB
  go_wp2_with fail
  refine (zqfe oA oB q kA kB PU _ (by omega) HA.out HB.out).mono ?_
  rintro e w15 ⟨rfl, hb⟩
  replace fs := zqb hb fs
  replace fv := zqb hb fv
  replace ft := zqb hb ft
  replace fp := zqb hb fp
  replace HR := hid1 (HR.out.later hb)
  replace HD := hid1 (HD.out.later hb)
  replace HA := hid1 (HA.out.later hb)
  replace HB := hid1 (HB.out.later hb)
  replace lfs := zqa fs
  replace lfv := zqa fv
  replace lft := zqa ft
  replace lfp := zqa fp
  replace hG := Grew.trans hG hb
  clear hb
  clear HA HB
  go_wp2_with fail
  refine (cCp g c2 _ HR.out).mono ?_
  rintro e w16 ⟨oA, kA, rfl, hA, hb⟩
  replace fs := zqb hb fs
  replace fv := zqb hb fv
  replace ft := zqb hb ft
  replace fp := zqb hb fp
  replace HR := hid1 (HR.out.later hb)
  replace HD := hid1 (HD.out.later hb)
  replace lfs := zqa fs
  replace lfv := zqa fv
  replace lft := zqa ft
  replace lfp := zqa fp
  replace hG := Grew.trans hG hb
  have HA : Hid (K32At w16 oA cl Z) := hA
  clear hb hA
  go_wp2_with fail
  refine (cRC gd cd _ HD.out.k32).mono ?_
  rintro e w17 ⟨oB, kB, rfl, hB, hb⟩
  replace fs := zqb hb fs
  replace fv := zqb hb fv
  replace ft := zqb hb ft
  replace fp := zqb hb fp
  replace HR := hid1 (HR.out.later hb)
  replace HD := hid1 (HD.out.later hb)
  replace HA := hid1 (HA.out.later hb)
  replace lfs := zqa fs
  replace lfv := zqa fv
  replace lft := zqa ft
  replace lfp := zqa fp
  replace hG := Grew.trans hG hb
  have HB : Hid (K32At w17 oB cl Z) := hB
  clear hb hB
  go_wp2_with fail
  refine (zqfe oA oB cl kA kB Z _ (by omega) HA.out HB.out).mono ?_
  rintro e w18 ⟨rfl, hb⟩
  replace fs := zqb hb fs
  replace fv := zqb hb fv
  replace ft := zqb hb ft
  replace fp := zqb hb fp
  replace HR := hid1 (HR.out.later hb)
  replace HD := hid1 (HD.out.later hb)
  replace HA := hid1 (HA.out.later hb)
  replace HB := hid1 (HB.out.later hb)
  replace lfs := zqa fs
  replace lfv := zqa fv
  replace lft := zqa ft
  replace lfp := zqa fp
  replace hG := Grew.trans hG hb
  clear hb
  clear HA HB
  clear cRt cRR cPu cRP cCp cRC
  go_wp2_with fail
  refine (cRe g c2 _ HR.out (hTT.out.later hG)).mono ?_
  rintro e w19 ⟨rfl, hb⟩
  replace fs := zqb hb fs
  replace fv := zqb hb fv
  replace ft := zqb hb ft
  replace fp := zqb hb fp
  replace HR := hid1 (HR.out.later hb)
  replace HD := hid1 (HD.out.later hb)
  replace lfs := zqa fs
  replace lfv := zqa fv
  replace lft := zqa ft
  replace lfp := zqa fp
  replace hG := Grew.trans hG hb
  clear hb cRe
  clear HR HD ft lft fp lfp fs lfs fv lfv
  rcases (by omega : j < 0 ∨ (¬ (j < 0) ∧ (n : Int) ≤ j)) with hj1 | ⟨hj1, hj2⟩
  ·clear hj
   go_wp2_with fail
   have hb : Below w19.heap.size w19 (w19.alloc (.cells #[.slice none 0 0] 30)) := Grew.alloc (Grew.refl _) _
   have fu : objAt (w19.alloc (.cells #[.slice none 0 0] 30)) w19.heap.size = some (.cells #[.slice none 0 0] 30) := zqh _ _ _ rfl
   replace hG := Grew.trans hG hb
   clear hb
   generalize w19.alloc (.cells #[.slice none 0 0] 30) = w20 at *
   generalize w19.heap.size = gu at *
   have lfu := zqa fu
   go_wp2_with fail
   refine (zqtc _ _).mono ?_
   rintro e w21 ⟨rfl, hb⟩
   replace fu := zqb hb fu
   replace lfu := zqa fu
   replace hG := Grew.trans hG hb
   clear hb
   go_wp2
   go_ret
   exact ⟨rfl, hG⟩
  ·clear hj
   go_wp2_with fail
   have hb : Below w19.heap.size w19 (w19.alloc (.cells #[.slice none 0 0] 30)) := Grew.alloc (Grew.refl _) _
   have fu : objAt (w19.alloc (.cells #[.slice none 0 0] 30)) w19.heap.size = some (.cells #[.slice none 0 0] 30) := zqh _ _ _ rfl
   replace hG := Grew.trans hG hb
   clear hb
   generalize w19.alloc (.cells #[.slice none 0 0] 30) = w20 at *
   generalize w19.heap.size = gu at *
   have lfu := zqa fu
   go_wp2_with fail
   refine (zqtc _ _).mono ?_
   rintro e w21 ⟨rfl, hb⟩
   replace fu := zqb hb fu
   replace lfu := zqa fu
   replace hG := Grew.trans hG hb
   clear hb
   go_wp2
   go_ret
   exact ⟨rfl, hG⟩
end Go.Proofs.YtconieddcjpbjaaGreatDoor
namespace Go.Proofs.YtconieddcjpbjaaGreatDoor
open Go.RowKit
set_option linter.unusedVariables false
set_option linter.unusedSimpArgs false
theorem idxI_case (f s : Int) : ∀ (L : List Nd) (k : Nat), idxI f s L k = -1 ∨ ∃ (i : Nat) (v : Nd), L[i]? = some v ∧ (v.f : Int) = f ∧ (v.s : Int) = s ∧ idxI f s L k = ((k + i : Nat) : Int)
 | [], k => .inl rfl
 | u :: L, k => by
  rw [idxI]
  split
  ·rename_i h
   exact .inr ⟨0, u, rfl, h.1, h.2, rfl⟩
  ·rcases idxI_case f s L (k + 1) with h | ⟨i, v, hi, e1, e2, h⟩
   ·exact .inl h
   ·exact .inr ⟨i + 1, v, by rw [List.getElem?_cons_succ]; exact hi, e1, e2, by rw [h]; congr 1; omega⟩
theorem same_pub (k : Nat → Int) : same 32 (pubF k) (keyV (pubV k)) = true := by
 unfold pubF
 exact zqb6 32 _
attribute [local irreducible] nodeF zqce oneF macF shaF strOf keyV shV pubV upF upOK pubF
theorem makes13_few (oa : Option Addr) (n c : Nat) (j a b : Int) (s : Nat → Int) (w : World) (hT : Tabs w) (hn : n < 2) (aw : ∀ W : World, Tabs W → Calls Tryz.prog 8 #[] W fun e w' => e = .returned (.bool true) ∧ Below W.heap.size W w') :
  Calls Tryz.prog 3 #[.slice oa n c, .int .i64 j, .agg (ints .u8 32 s), .agg #[.int .i64 a, .int .i64 b]] w fun e w' => e = .returned (.bool true) ∧ Below w.heap.size w w' := by
 have hTT : Hid (Tabs w) := hT
 clear hT
 have hn6 : ¬ ((6 : Int) < (n : Int)) := by omega
 have hn2' : (n : Int) < 2 := by omega
 have hn2 : ¬ ((2 : Int) ≤ (n : Int)) := by omega
 have hsm := zqb6 32 zqd
 have hG := Grew.refl w
 have fs : True := trivial
 have fv : True := trivial
 go_enter Tryz.func3, Tryz.ntmps3
 go_wp2_with fail
 replace fs : objAt ((w.alloc (.cells (ints .u8 32 (s)) 24)).alloc (.cells #[.int .i64 a, .int .i64 b] 26)) (w.heap.size) = some (.cells (ints .u8 32 (s)) 24) := by exact zqc
 replace fv : objAt ((w.alloc (.cells (ints .u8 32 (s)) 24)).alloc (.cells #[.int .i64 a, .int .i64 b] 26)) (w.heap.size + 1) = some (.cells #[.int .i64 a, .int .i64 b] 26) := by exact zqc
 replace hG : Below w.heap.size w ((w.alloc (.cells (ints .u8 32 (s)) 24)).alloc (.cells #[.int .i64 a, .int .i64 b] 26)) := by exact zqe
 generalize (w.alloc (.cells (ints .u8 32 (s)) 24)).alloc (.cells #[.int .i64 a, .int .i64 b] 26) = w1 at *
 have lfs := zqa fs
 have lfv := zqa fv
 go_wp2_with fail
 refine (aw _ (hTT.out.later hG)).mono ?_
 rintro e w2 ⟨rfl, hb⟩
 replace fs := zqb hb fs
 replace fv := zqb hb fv
 replace lfs := zqa fs
 replace lfv := zqa fv
 replace hG := Grew.trans hG hb
 clear hb
 go_wp2_with fail
 refine (zqsr oa n c _ hn).mono ?_
 rintro e w3 ⟨rfl, hb⟩
 replace fs := zqb hb fs
 replace fv := zqb hb fv
 replace lfs := zqa fs
 replace lfv := zqa fv
 replace hG := Grew.trans hG hb
 clear hb
 go_wp2_with fail
 have hb : Below w3.heap.size w3 (w3.alloc (.cells #[.slice none 0 0] 30)) := Grew.alloc (Grew.refl _) _
 have ft : objAt (w3.alloc (.cells #[.slice none 0 0] 30)) w3.heap.size = some (.cells #[.slice none 0 0] 30) := zqh _ _ _ rfl
 replace fs := zqb hb fs
 replace fv := zqb hb fv
 replace lfs := zqa fs
 replace lfv := zqa fv
 replace hG := Grew.trans hG hb
 clear hb
 generalize w3.alloc (.cells #[.slice none 0 0] 30) = w4 at *
 generalize w3.heap.size = gt at *
 have lft := zqa ft
 go_wp2_with fail
 refine (zqtc 0 _).mono ?_
 rintro e w5 ⟨rfl, hb⟩
 replace fs := zqb hb fs
 replace fv := zqb hb fv
 replace ft := zqb hb ft
 replace lfs := zqa fs
 replace lfv := zqa fv
 replace lft := zqa ft
 replace hG := Grew.trans hG hb
 clear hb
 go_wp2_with fail
 refine (zqwt 0 _).mono ?_
 rintro e w6 ⟨rfl, hb⟩
 replace fs := zqb hb fs
 replace fv := zqb hb fv
 replace ft := zqb hb ft
 replace lfs := zqa fs
 replace lfv := zqa fv
 replace lft := zqa ft
 replace hG := Grew.trans hG hb
 clear hb
 go_wp2_with fail
 refine (zqoo 0 _).mono ?_
 rintro e w7 ⟨rfl, hb⟩
 replace fs := zqb hb fs
 replace fv := zqb hb fv
 replace ft := zqb hb ft
 replace lfs := zqa fs
 replace lfv := zqa fv
 replace lft := zqa ft
 replace hG := Grew.trans hG hb
 clear hb
 go_wp2
 go_ret
 exact ⟨rfl, hG⟩
theorem makes13_many (oa : Option Addr) (n c : Nat) (j a b : Int) (s : Nat → Int) (w : World) (hT : Tabs w) (hn : ¬ (n ≤ 6)) (aw : ∀ W : World, Tabs W → Calls Tryz.prog 8 #[] W fun e w' => e = .returned (.bool true) ∧ Below W.heap.size W w') :
  Calls Tryz.prog 3 #[.slice oa n c, .int .i64 j, .agg (ints .u8 32 s), .agg #[.int .i64 a, .int .i64 b]] w fun e w' => e = .returned (.bool true) ∧ Below w.heap.size w w' := by
 have hTT : Hid (Tabs w) := hT
 clear hT
 have hn6 : (6 : Int) < (n : Int) := by omega
 have hG := Grew.refl w
 have fs : True := trivial
 have fv : True := trivial
 go_enter Tryz.func3, Tryz.ntmps3
 go_wp2_with fail
 replace fs : objAt ((w.alloc (.cells (ints .u8 32 (s)) 24)).alloc (.cells #[.int .i64 a, .int .i64 b] 26)) (w.heap.size) = some (.cells (ints .u8 32 (s)) 24) := by exact zqc
 replace fv : objAt ((w.alloc (.cells (ints .u8 32 (s)) 24)).alloc (.cells #[.int .i64 a, .int .i64 b] 26)) (w.heap.size + 1) = some (.cells #[.int .i64 a, .int .i64 b] 26) := by exact zqc
 replace hG : Below w.heap.size w ((w.alloc (.cells (ints .u8 32 (s)) 24)).alloc (.cells #[.int .i64 a, .int .i64 b] 26)) := by exact zqe
 generalize (w.alloc (.cells (ints .u8 32 (s)) 24)).alloc (.cells #[.int .i64 a, .int .i64 b] 26) = w1 at *
 have lfs := zqa fs
 have lfv := zqa fv
 go_wp2_with fail
 refine (aw _ (hTT.out.later hG)).mono ?_
 rintro e w2 ⟨rfl, hb⟩
 replace fs := zqb hb fs
 replace fv := zqb hb fv
 replace lfs := zqa fs
 replace lfv := zqa fv
 replace hG := Grew.trans hG hb
 clear hb
 go_wp2
 go_ret
 exact ⟨rfl, hG⟩
theorem makes13_any (rS : zqei) (rB : zqi0) (aw : ∀ W : World, Tabs W → Calls Tryz.prog 8 #[] W fun e w' => e = .returned (.bool true) ∧ Below W.heap.size W w') (F : Nat → Nat → Int) (oa : Option Addr) (n c : Nat) (j : Int) (s : Nat → Int) (a b : Int) (w : World) (hF : ∀ i, i < n → Bytes 32 (F i)) (hs : Bytes 32 s) (hj0 : -9223372036854775808 ≤ j) (hj1 : j ≤ 9223372036854775807) (ha0 : -9223372036854775808 ≤ a) (ha1 : a ≤ 9223372036854775807) (hK : K32At w oa n F) (hT : Tabs w) :
  Calls Tryz.prog 3 #[.slice oa n c, .int .i64 j, .agg (ints .u8 32 s), .agg #[.int .i64 a, .int .i64 b]] w fun e w' => e = .returned (.bool true) ∧ Below w.heap.size w w' := by
 by_cases h6 : n ≤ 6
 case neg => exact makes13_many oa n c j a b s w hT h6 aw
 by_cases h2 : 2 ≤ n
 case neg => exact makes13_few oa n c j a b s w hT (by omega) aw
 have h1 : 1 ≤ n := by omega
 have hn : n ≤ 1024 := by omega
 have hm : 2 * n - 1 + 1 = 2 * n := by omega
 have cPr := fun (g c2 : Nat) (W : World) (h : Row64 W g (2 * n - 1) (prF F n)) => bPair_any (treeF F n) (fun i => pubF (treeF F n i)) g (2 * n - 1) c2 n a b W hm h1 hn ha0 ha1 h
 have cIx := fun W : World => zqm7 (n : Int) a b W
 obtain ⟨sk, pz, fb, ix, hFd, cPr, cIx⟩ : ∃ (sk pz : Nat → Int) (fb : Bool) (ix : Int), Hid ((∃ i : Nat, fb = true ∧ pz = pubF sk ∧ ix = (i : Int) ∧ (∀ (gd cd : Nat) (W : World), K32At W (some ⟨gd, 0, none⟩) n F → Calls Tryz.prog 16 #[.slice (some ⟨gd, 0, none⟩) n cd, .agg #[.int .i64 a, .int .i64 b]] W fun e w' => e = .returned (.agg (ints .u8 32 sk)) ∧ Below W.heap.size W w') ∧ ∀ W : World, Calls Tryz.prog 17 #[.agg (ints .u8 64 (keysF sk (pubF sk)))] W fun e w' => e = .returned (.bool true) ∧ Below W.heap.size W w') ∨ (fb = false ∧ sk = zqd ∧ pz = zqd ∧ ix = -1)) ∧ (∀ (g c2 : Nat) (W : World), Row64 W g (2 * n - 1) (prF F n) → Calls Tryz.prog 14 #[.agg #[.slice (some ⟨g, 0, none⟩) (2 * n - 1) c2], .agg #[.int .i64 a, .int .i64 b]] W fun e w' => e = .returned (.tuple #[.agg (ints .u8 64 (keysF sk pz)), .bool fb]) ∧ Below W.heap.size W w') ∧ (∀ W : World, Calls Tryz.prog 15 #[.int .i64 (n : Int), .agg #[.int .i64 a, .int .i64 b]] W fun e w' => e = .returned (.int .i64 ix) ∧ Below W.heap.size W w') := by
  rcases idxI_case a b (allN n) 0 with hI | ⟨i, v, hv, rfl, rfl, hI⟩
  ·rw [hI] at cIx
   rw [hI, if_neg (by decide), decide_eq_false (by decide)] at cPr
   exact ⟨zqd, zqd, false, -1, .inr ⟨rfl, rfl, rfl, rfl⟩, cPr, cIx⟩
  ·rw [Nat.zero_add] at hI
   rw [hI] at cIx
   rw [hI, if_pos (by omega), decide_eq_true (by omega), show ((i : Int)).toNat = i by omega] at cPr
   rw [zqec h1 hn] at hv
   have hv1 := zqcw 0 n v (List.mem_of_getElem? hv)
   have hs1 : 1 ≤ v.s := hv1.2.2.2 h1
   have hs2 : v.f + v.s ≤ n := by omega
   have hiL : i < 2 * n - 1 := by
    have := (List.getElem?_eq_some_iff.1 hv).1
    rw [zqav 0 n h1] at this
    exact this
   have cSec := fun (gd cd : Nat) (W : World) (h : K32At W (some ⟨gd, 0, none⟩) n F) => zqsd rS rB F (some ⟨gd, 0, none⟩) n cd v.f v.s W hn hF hs1 hs2 h
   rw [show secK F v.f v.s = treeF F n i from (zqd2 hv).symm] at cSec
   have cRi := fun W : World => zqp5 (treeF F n i) (pubF (treeF F n i)) W (zqhs hF h1 i hiL) (zqfd _)
   rw [same_pub] at cRi
   exact ⟨treeF F n i, pubF (treeF F n i), true, i, .inl ⟨i, rfl, rfl, rfl, cSec, cRi⟩, cPr, cIx⟩
 by_cases hj : 0 ≤ j ∧ j < n
 ·obtain ⟨J, hJe⟩ : ∃ J : Nat, j = (J : Int) := ⟨j.toNat, by omega⟩
  have hJ : J < n := by omega
  have hF1 := zqfb (j := J) hF hs
  exact makes13_y (oa := oa) (n := n) (c := c) (m := 2 * n - 1) (q := 2 * n - 1 - 1) (cl := (zqa7 n j).length) (j := j) (a := a) (b := b) (ix := ix) (fb := fb) (F := F) (Z := cpF (fun i => pubF (treeF F n i)) n (zqa7 n j)) (PR := prF F n) (PU := fun i => pubF (treeF F n (i + 1))) (s := s) (R0 := treeF F n 0) (sk := sk) (pz := pz)
    (J := J) (F1 := updL F J s) (PR1 := prF (updL F J s) n) (PU1 := fun i => pubF (treeF (updL F J s) n (i + 1))) (R1 := treeF (updL F J s) n 0) (hj := hJe) (hJ := hJ) (hF1 := rfl)
    (w := w) (hT := hT) (hK := hK) (h2 := h2) (h6 := h6) (hq := by omega) (hcl := by have := zqgu n j; omega) (aw := aw)
    (cMk := fun W h hT => zqfi F oa n (2 * n - 1) c W hm h2 hn hF h hT)
    (cKy := fun W h => zqm9 oa n c F W (by omega) (by omega) h)
    (cPr := cPr)
    (cIx := cIx)
    (hFd := hFd)
    (cN := fun g c2 W => zqn2 (some ⟨g, 0, none⟩) (2 * n - 1) c2 n W hm hn)
    (cRt := fun g c2 W h => zqfl (treeF F n) (fun i => pubF (treeF F n i)) g (2 * n - 1) c2 W (by omega) (by omega) h)
    (cRR := fun gd cd W h => zqma rS rB F (some ⟨gd, 0, none⟩) n cd W (by omega) (by omega) hF h)
    (cPu := fun g c2 W h => zqc9 (treeF F n) (fun i => pubF (treeF F n i)) g (2 * n - 1) c2 W (by omega) h)
    (cRP := fun gd cd W h => zqgh rS rB F (some ⟨gd, 0, none⟩) n cd W (by omega) (by omega) hF h)
    (cCp := fun g c2 W h => zqdi (treeF F n) (fun i => pubF (treeF F n i)) g (2 * n - 1) c2 n j W hm h1 hn hj0 hj1 h)
    (cRC := fun gd cd W h => zqh9 rS rB F (some ⟨gd, 0, none⟩) n cd j W h1 hn hF h)
    (cRe := fun g c2 W h hT => by rw [hJe]; exact zqc5 F g (2 * n - 1) c2 n J s W hm h2 hn hJ hF hs h hT)
    (cRt1 := fun g c2 W h => zqfl (treeF (updL F J s) n) (fun i => pubF (treeF (updL F J s) n i)) g (2 * n - 1) c2 W (by omega) (by omega) h)
    (cRR1 := fun gd cd W h => zqma rS rB (updL F J s) (some ⟨gd, 0, none⟩) n cd W (by omega) (by omega) hF1 h)
    (cPu1 := fun g c2 W h => zqc9 (treeF (updL F J s) n) (fun i => pubF (treeF (updL F J s) n i)) g (2 * n - 1) c2 W (by omega) h)
    (cRP1 := fun gd cd W h => zqgh rS rB (updL F J s) (some ⟨gd, 0, none⟩) n cd W (by omega) (by omega) hF1 h)
 ·exact makes13_n (oa := oa) (n := n) (c := c) (m := 2 * n - 1) (q := 2 * n - 1 - 1) (cl := (zqa7 n j).length) (j := j) (a := a) (b := b) (ix := ix) (fb := fb) (F := F) (Z := cpF (fun i => pubF (treeF F n i)) n (zqa7 n j)) (PR := prF F n) (PU := fun i => pubF (treeF F n (i + 1))) (s := s) (R0 := treeF F n 0) (sk := sk) (pz := pz)
      (hj := hj)
      (w := w) (hT := hT) (hK := hK) (h2 := h2) (h6 := h6) (hq := by omega) (hcl := by have := zqgu n j; omega) (aw := aw)
      (cMk := fun W h hT => zqfi F oa n (2 * n - 1) c W hm h2 hn hF h hT)
      (cKy := fun W h => zqm9 oa n c F W (by omega) (by omega) h)
      (cPr := cPr)
      (cIx := cIx)
      (hFd := hFd)
      (cN := fun g c2 W => zqn2 (some ⟨g, 0, none⟩) (2 * n - 1) c2 n W hm hn)
      (cRt := fun g c2 W h => zqfl (treeF F n) (fun i => pubF (treeF F n i)) g (2 * n - 1) c2 W (by omega) (by omega) h)
      (cRR := fun gd cd W h => zqma rS rB F (some ⟨gd, 0, none⟩) n cd W (by omega) (by omega) hF h)
      (cPu := fun g c2 W h => zqc9 (treeF F n) (fun i => pubF (treeF F n i)) g (2 * n - 1) c2 W (by omega) h)
      (cRP := fun gd cd W h => zqgh rS rB F (some ⟨gd, 0, none⟩) n cd W (by omega) (by omega) hF h)
      (cCp := fun g c2 W h => zqdi (treeF F n) (fun i => pubF (treeF F n i)) g (2 * n - 1) c2 n j W hm h1 hn hj0 hj1 h)
      (cRC := fun gd cd W h => zqh9 rS rB F (some ⟨gd, 0, none⟩) n cd j W h1 hn hF h)
      (cRe := fun g c2 W h hT => zqmz (treeF F n) (fun i => pubF (treeF F n i)) g (2 * n - 1) c2 n j s W hm h1 hn hj hj0 hj1 hs h hT)
end Go.Proofs.YtconieddcjpbjaaGreatDoor
