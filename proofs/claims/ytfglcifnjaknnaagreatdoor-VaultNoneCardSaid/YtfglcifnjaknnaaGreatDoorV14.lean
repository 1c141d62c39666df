/- V14 -/
import Derived.Test.YtfglcifnjaknnaaGreatDoorQ14
import Derived.Test.YtfglcifnjaknnaaGreatDoorL13
set_option linter.unusedVariables false
set_option linter.unusedSimpArgs false
set_option maxRecDepth 100000
set_option maxHeartbeats 4000000
namespace Go.Proofs.YtfglcifnjaknnaaGreatDoor
open Go.RowKit
@[go_sem] theorem zrid (w : World) : (zqcs (.int .u8 3)).run Tryz.prog w = .ok (.value (.agg (ints .u8 32 (upd zqd 0 3)))) w := by kernel_rfl
def KkS (n : Nat) (u : Value) : Prop := ∃ g c, u = .slice (some ⟨g, 0, none⟩) n c
def KkAt (n : Nat) (F : Nat -> Nat -> Int) (u : Value) (w : World) : Prop := ∀ g c, u = .slice (some ⟨g, 0, none⟩) n c -> Row32 29 w g n F
theorem zqle (n : Nat) (F : Nat -> Nat -> Int) (u : Value) : Stab (KkAt n F u) none := fun w w' h e g c hu => (h g c hu).later e
theorem zqjk (n : Nat) (F : Nat -> Nat -> Int) (u : Value) (g' : Nat) : Stab (KkAt n F u) (some (g', 293)) := fun w w' h ⟨old, cs', t', h1, ⟨_, h2⟩, e⟩ g c hu => by
 subst e;subst h2;exact (h g c hu).by (zq1 _ _ _ _ (zqhb h1 (h g c hu)))
def PcS (u : Value) : Prop := ∃ oS kS gC kC, u = .tuple #[.agg #[.int .i64 2, .int .i64 0, .slice oS 2 kS, .slice (some ⟨gC, 0, none⟩) 1 kC], .bool true]
def PcAt (F : Nat -> Nat -> Int) (u : Value) (w : World) : Prop := ∀ oS kS gC kC, u = .tuple #[.agg #[.int .i64 2, .int .i64 0, .slice oS 2 kS, .slice (some ⟨gC, 0, none⟩) 1 kC], .bool true] -> Row32 29 w gC 1 F
theorem zql6 (F : Nat -> Nat -> Int) (u : Value) : Stab (PcAt F u) none := fun w w' h e a b c d hu => (h a b c d hu).later e
theorem zqj5 (F : Nat -> Nat -> Int) (u : Value) (g' : Nat) : Stab (PcAt F u) (some (g', 293)) := fun w w' h ⟨old, cs', t', h1, ⟨_, h2⟩, e⟩ a b c d hu => by
 subst e;subst h2;exact (h a b c d hu).by (zq1 _ _ _ _ (zqhb h1 (h a b c d hu)))
theorem zqvd {P : Prop} (h : P := by first | exact zq7 | ((repeat (refine zqgt ⟨by (first | exact zqco _ _ _ _ | exact zqjk _ _ _ _ | exact zqle _ _ _ | exact zqj5 _ _ _ | exact zql6 _ _ | exact zqei _ _ _ | exact zqcr _ _ _), by (first | exact zqco _ _ _ _ | exact zqjk _ _ _ _ | exact zqle _ _ _ | exact zqj5 _ _ _ | exact zql6 _ _ | exact zqei _ _ _ | exact zqcr _ _ _)⟩ ?_)); exact zqcj (by (first | exact zqco _ _ _ _ | exact zqjk _ _ _ _ | exact zqle _ _ _ | exact zqj5 _ _ _ | exact zql6 _ _ | exact zqei _ _ _ | exact zqcr _ _ _)))) : P := h
attribute [local irreducible] zqda zqbw oneF macF shaF strOf keyV shV pubV upF upOK pubF
theorem zqkj (n l : Int) (oS oC : Option Addr) (d cS cC : Nat) (S : Nat -> Nat -> Int) (w : World) (h0 : 0 < d) (hd : d <= 1000) (hS : ∀ i, i < d -> Bytes 32 (S i)) (hK : K32At w oS (d + 1) S) :
  Calls Tryz.prog 206 #[.agg #[.int .i64 n, .int .i64 l, .slice oS (d + 1) cS, .slice oC d cC]] w fun e w' => ∃ g c, e = .returned (.slice (some ⟨g, 0, none⟩) d c) /\ Row32 29 w' g d (fun i => pubF (S i)) /\ Below w.heap.size w w' := by
 have HK : Hid (K32At w oS (d + 1) S) := hK;have cB : Hid (∀ (i : Nat) (W : World), i < d -> Calls Tryz.prog 35 #[.agg (ints .u8 32 (S i))] W (Rt W (.agg (ints .u8 32 (pubF (S i)))))) := fun i W hi => zq0k (S i) W (hS i hi);obtain ⟨ad, rfl⟩ := hK.addr (by omega);clear hK hS;have hG := Grew.refl w;have fp : True := trivial
 go_enter Tryz.func206, Tryz.ntmps206
 go_wp2_with fail;generalize hW : w.alloc (.cells #[.int .i64 n, .int .i64 l, .slice (some ad) (d + 1) cS, .slice oC d cC] 293) = w1;replace fp : zqe w1 (w.heap.size) = some (.cells #[.int .i64 n, .int .i64 l, .slice (some ad) (d + 1) cS, .slice oC d cC] 293) := zqs hW;replace hG : Below w.heap.size w w1 := zqam hW;clear hW;have lfp := zqa fp;go_wp2_with fail
 go_loopw [8, 3, 4] (fun i v _ wr => ∃ (j : Nat) (v0 : Value), v0 = v /\ j <= d /\ i = .int .i64 j /\ Below w1.heap.size w1 wr /\ Hid (wr.ownsRow w1.heap.size 29 32 v0 j (k32L (fun i => pubF (S i)) j))) (fun i _ _ _ => d - (intOf i).toNat)
 case atStart => exact ⟨0, _, rfl, by omega, rfl, Grew.refl _, World.ownsRow_nil _ _ _ _⟩
 case round =>
  obtain ⟨j, v0, rfl, hj, rfl, hM, OWN⟩ := hrel
  by_cases hlt : j < d
  ·replace fp := zqc hM fp
   have lfp := zqa fp;have l1 := HK.out.loadK (show j < d + 1 by omega) (Grew.trans hG hM);have hi1 : (j : Int) < (d : Int) := by omega
   have hi2 : (j : Int) < (d : Int) + 1 := by omega
   have hi0 : (0 : Int) <= (j : Int) := by omega
   have cBj := fun W : World => cB.out j W hlt;clear cB;go_wp2_with fail;refine (cBj _).mono ?_
   rintro e w5 ⟨rfl, hb5⟩;have hM5 := Grew.trans hM hb5;have OWN5 := zqey OWN.out hb5;clear OWN hM hb5 cBj l1 fp lfp;obtain ⟨g3, c3, w3, hr3, own3, hb3, -⟩ := zqnq w1 (w5.alloc (.cells (ints .u8 32 (pubF (S j))) 29)) w1.heap.size v0 j (fun i => pubF (S i)) w5.heap.size _ _ (OWN5.alloc _) (by omega) (zqg _ _ _ rfl) (Grew.alloc hM5 _) (Nat.le_refl _) (by simp; have := hM5.size; omega);have OWN3 : Hid (w3.ownsRow w1.heap.size 29 32 (.slice (some ⟨g3, 0, none⟩) (j + 1) c3) (j + 1) (k32L (fun i => pubF (S i)) (j + 1))) := own3;clear own3 OWN5;go_wp2
   go_roundw
   case rel => exact ⟨j + 1, _, rfl, by omega, by go_num, hb3, OWN3⟩
   case measure => (simp [intOf] <;> omega)
  ·obtain rfl : j = d := by omega
   obtain ⟨g2, c2, rfl, -, -, hK2⟩ := zqkc h0 OWN.out;have HK2 : Hid (Row32 29 wr g2 j (fun i => pubF (S i))) := hK2;clear OWN hK2;go_wp2;go_ret;exact ⟨g2, c2, rfl, HK2.out, Grew.trans hG hM⟩
theorem zqpt (z1 z2 z3 q1 q2 q3 : Nat -> Int) (S0 S1 PR : Nat -> Nat -> Int) (w : World) (hT : Tabs w) (hz1 : upd zqd 0 1 = z1) (hz2 : upd zqd 0 2 = z2) (hz3 : upd zqd 0 3 = z3)
  (aw : ∀ W : World, Tabs W -> Calls Tryz.prog 207 #[] W (Rt W (.bool true)))
  (cM : ∀ (ad : Addr) (W : World), K32At W (some ad) 2 (two z1 z2) -> Tabs W -> Calls Tryz.prog 202 #[.slice (some ad) 2 2] W fun e w' => ∃ g c, e = .returned (.tuple #[.agg #[.slice (some ⟨g, 0, none⟩) 3 c], .bool true]) /\ Row64 w' g 3 PR /\ Below W.heap.size W w')
  (cD0 : ∀ (g c : Nat) (W : World), Row64 W g 3 PR -> Calls Tryz.prog 204 #[.agg #[.slice (some ⟨g, 0, none⟩) 3 c], .int .i64 0] W fun e w' => ∃ oa c, e = .returned (.slice oa 1 c) /\ K32At w' oa 1 (fun _ => q2) /\ Below W.heap.size W w')
  (cD1 : ∀ (g c : Nat) (W : World), Row64 W g 3 PR -> Calls Tryz.prog 204 #[.agg #[.slice (some ⟨g, 0, none⟩) 3 c], .int .i64 1] W fun e w' => ∃ oa c, e = .returned (.slice oa 1 c) /\ K32At w' oa 1 (fun _ => q1) /\ Below W.heap.size W w')
  (cP0 : ∀ (o : Option Addr) (c : Nat) (W : World), K32At W o 1 (fun _ => q2) -> Tabs W -> Calls Tryz.prog 203 #[.int .i64 2, .int .i64 0, .agg (ints .u8 32 z1), .slice o 1 c] W fun e w' => ∃ oS kS gC kC, e = .returned (.tuple #[.agg #[.int .i64 2, .int .i64 0, .slice oS 2 kS, .slice (some ⟨gC, 0, none⟩) 1 kC], .bool true]) /\ K32At w' oS 2 S0 /\ Row32 29 w' gC 1 (fun _ => q2) /\ Below W.heap.size W w')
  (cP1 : ∀ (o : Option Addr) (c : Nat) (W : World), K32At W o 1 (fun _ => q1) -> Tabs W -> Calls Tryz.prog 203 #[.int .i64 2, .int .i64 1, .agg (ints .u8 32 z3), .slice o 1 c] W fun e w' => ∃ oS kS gC kC, e = .returned (.tuple #[.agg #[.int .i64 2, .int .i64 1, .slice oS 2 kS, .slice (some ⟨gC, 0, none⟩) 1 kC], .bool true]) /\ K32At w' oS 2 S1 /\ Row32 29 w' gC 1 (fun _ => q1) /\ Below W.heap.size W w')
  (cPub : ∀ (oS oC : Option Addr) (kS kC : Nat) (W : World), K32At W oS 2 S1 -> Calls Tryz.prog 206 #[.agg #[.int .i64 2, .int .i64 1, .slice oS 2 kS, .slice oC 1 kC]] W fun e w' => ∃ g c, e = .returned (.slice (some ⟨g, 0, none⟩) 1 c) /\ Row32 29 w' g 1 (fun _ => q3) /\ Below W.heap.size W w')
  (cTk : ∀ (oS oC o : Option Addr) (kS kC c : Nat) (W : World), K32At W oS 2 S0 -> K32At W oC 1 (fun _ => q2) -> K32At W o 1 (fun _ => q3) -> Tabs W -> Calls Tryz.prog 205 #[.agg #[.int .i64 2, .int .i64 0, .slice oS 2 kS, .slice oC 1 kC], .int .i64 1, .slice o 1 c] W fun e w' => ∃ oS kS gC kC, e = .returned (.tuple #[.agg #[.int .i64 2, .int .i64 0, .slice oS 2 kS, .slice (some ⟨gC, 0, none⟩) 1 kC], .bool true]) /\ Row32 29 w' gC 1 (fun _ => q3) /\ Below W.heap.size W w')
  (cCo : ∀ (oS oC : Option Addr) (kS kC : Nat) (W : World), K32At W oC 1 (fun _ => q3) -> Calls Tryz.prog 208 #[.agg #[.int .i64 2, .int .i64 0, .slice oS 2 kS, .slice oC 1 kC]] W (zq2y W 1 (fun _ => q3))) :
  Calls Tryz.prog 201 #[] w (Rt w (.bool true)) := by
 have hTT : Hid (Tabs w) := hT;clear hT;have hG := Grew.refl w
 go_enter Tryz.func201, Tryz.ntmps201
 go_wp2_with fail;have fl : zqe (w.alloc (.cells (ints .u8 64 (rowK (two z1 z2))) 29)) w.heap.size = some (.cells (ints .u8 64 (rowK (two z1 z2))) 29) := zqg _ _ _ rfl;have hK0 : K32At (w.alloc (.cells (ints .u8 64 (rowK (two z1 z2))) 29)) (some ⟨w.heap.size, 0, none⟩) 2 (two z1 z2) := zqha fl (by decide) (zqy7 (two z1 z2) 2);have hG1 : Below w.heap.size w (w.alloc (.cells (ints .u8 64 (rowK (two z1 z2))) 29)) := Grew.alloc hG _;have hTT1 : Tabs (w.alloc (.cells (ints .u8 64 (rowK (two z1 z2))) 29)) := hTT.out.later hG1;refine (cM _ _ hK0 hTT1).mono ?_
 rintro e w2 ⟨g, c, rfl, hR, hb2⟩;have HR2 : Hid (Row64 w2 g 3 PR) := hR;have hG2 : Below w.heap.size w w2 := Grew.trans hG1 hb2;clear fl hK0 hG1 hTT1 hR hb2 hG cM;go_wp2_with fail;have ft : zqe (w2.alloc (.cells #[.slice (some ⟨g, 0, none⟩) 3 c] 289)) w2.heap.size = some (.cells #[.slice (some ⟨g, 0, none⟩) 3 c] 289) := zqg _ _ _ rfl;have hG : Below w.heap.size w (w2.alloc (.cells #[.slice (some ⟨g, 0, none⟩) 3 c] 289)) := Grew.alloc hG2 _;have HR : Hid (Row64 (w2.alloc (.cells #[.slice (some ⟨g, 0, none⟩) 3 c] 289)) g 3 PR) := HR2.out.later (Grew.alloc (Grew.refl _) _);have lft := zqa ft;clear HR2 hG2;generalize w2.alloc (.cells #[.slice (some ⟨g, 0, none⟩) 3 c] 289) = w3 at *;generalize w2.heap.size = gt at *;refine (cD0 _ _ _ HR.out).mono ?_
 rintro e w4 ⟨o1, c1, rfl, hK, hb⟩;replace ft := zqc hb ft;replace HR := hid1 (HR.out.later hb);replace lft := zqa ft;replace hG := Grew.trans hG hb;have HA : Hid (K32At w4 o1 1 (fun _ => q2)) := hK;clear hb hK cD0;go_wp2_with fail;refine (cP0 _ _ _ HA.out (hTT.out.later hG)).mono ?_
 rintro e w5 ⟨oS1, kS1, gC1, kC1, rfl, hS, hC, hb⟩;replace ft := zqc hb ft;replace HR := hid1 (HR.out.later hb);replace HA := hid1 (HA.out.later hb);replace lft := zqa ft;replace hG := Grew.trans hG hb;have HS1 : Hid (K32At w5 oS1 2 S0) := hS;have HC1 : Hid (Row32 29 w5 gC1 1 (fun _ => q2)) := hC;clear hb hS hC HA cP0;go_wp2_with fail;have hb : Below w5.heap.size w5 (w5.alloc (.cells #[.int .i64 2, .int .i64 0, .slice oS1 2 kS1, .slice (some ⟨gC1, 0, none⟩) 1 kC1] 293)) := Grew.alloc (Grew.refl _) _;have fp : zqe (w5.alloc (.cells #[.int .i64 2, .int .i64 0, .slice oS1 2 kS1, .slice (some ⟨gC1, 0, none⟩) 1 kC1] 293)) w5.heap.size = some (.cells #[.int .i64 2, .int .i64 0, .slice oS1 2 kS1, .slice (some ⟨gC1, 0, none⟩) 1 kC1] 293) := zqg _ _ _ rfl;replace ft := zqc hb ft;replace HR := hid1 (HR.out.later hb);replace HS1 := hid1 (HS1.out.later hb)
 replace HC1 := hid1 (HC1.out.later hb);replace lft := zqa ft;replace hG := Grew.trans hG hb;clear hb;generalize w5.alloc (.cells #[.int .i64 2, .int .i64 0, .slice oS1 2 kS1, .slice (some ⟨gC1, 0, none⟩) 1 kC1] 293) = w6 at *;generalize w5.heap.size = gp at *;have lfp := zqa fp;go_wp2_with fail;refine (cD1 _ _ _ HR.out).mono ?_
 rintro e w7 ⟨o1, c1, rfl, hK, hb⟩;replace ft := zqc hb ft;replace fp := zqc hb fp;replace HR := hid1 (HR.out.later hb);replace HS1 := hid1 (HS1.out.later hb);replace HC1 := hid1 (HC1.out.later hb);replace lft := zqa ft;replace lfp := zqa fp;replace hG := Grew.trans hG hb;have HA : Hid (K32At w7 o1 1 (fun _ => q1)) := hK;clear hb hK cD1;go_wp2_with fail;refine (cP1 _ _ _ HA.out (hTT.out.later hG)).mono ?_
 rintro e w8 ⟨oS2, kS2, gC2, kC2, rfl, hS, hC, hb⟩;replace ft := zqc hb ft;replace fp := zqc hb fp;replace HR := hid1 (HR.out.later hb);replace HS1 := hid1 (HS1.out.later hb);replace HC1 := hid1 (HC1.out.later hb);replace HA := hid1 (HA.out.later hb);replace lft := zqa ft;replace lfp := zqa fp;replace hG := Grew.trans hG hb;have HS2 : Hid (K32At w8 oS2 2 S1) := hS;have HC2 : Hid (Row32 29 w8 gC2 1 (fun _ => q1)) := hC;clear hb hS hC HA cP1;go_wp2_with fail;have hb : Below w8.heap.size w8 (w8.alloc (.cells #[.int .i64 2, .int .i64 1, .slice oS2 2 kS2, .slice (some ⟨gC2, 0, none⟩) 1 kC2] 293)) := Grew.alloc (Grew.refl _) _
 have fq : zqe (w8.alloc (.cells #[.int .i64 2, .int .i64 1, .slice oS2 2 kS2, .slice (some ⟨gC2, 0, none⟩) 1 kC2] 293)) w8.heap.size = some (.cells #[.int .i64 2, .int .i64 1, .slice oS2 2 kS2, .slice (some ⟨gC2, 0, none⟩) 1 kC2] 293) := zqg _ _ _ rfl;replace ft := zqc hb ft;replace fp := zqc hb fp;replace HR := hid1 (HR.out.later hb);replace HS1 := hid1 (HS1.out.later hb);replace HC1 := hid1 (HC1.out.later hb);replace HS2 := hid1 (HS2.out.later hb);replace HC2 := hid1 (HC2.out.later hb);replace lft := zqa ft;replace lfp := zqa fp;replace hG := Grew.trans hG hb;clear hb;generalize w8.alloc (.cells #[.int .i64 2, .int .i64 1, .slice oS2 2 kS2, .slice (some ⟨gC2, 0, none⟩) 1 kC2] 293) = w9 at *;generalize w8.heap.size = gq at *;have lfq := zqa fq;clear HR;go_wp2_with fail
 refine zqfo (fun k => k == 2 || k == 3) (fun k => match k with | 2 => fun u => KkS 1 u | 3 => fun u => PcS u | _ => fun _ => True) (fun k => match k with | 2 => fun u w => KkAt 1 (fun _ => q3) u w | 3 => fun u w => PcAt (fun _ => q3) u w | _ => fun _ _ => True) (fun k => match k with | 2 => .slice (some ⟨0, 0, none⟩) 1 0 | 3 => .tuple #[.agg #[.int .i64 2, .int .i64 0, .slice none 2 0, .slice (some ⟨0, 0, none⟩) 1 0], .bool true] | _ => undef) (fun i hi => ?_) zqb zqb ?_
 ·simp only [Bool.or_eq_true, beq_iff_eq] at hi
  rcases hi with rfl | rfl
  ·exact ⟨0, 0, rfl⟩
  ·exact ⟨none, 0, 0, 0, rfl⟩
 iterate 2 (first | refine zqv rfl ?_ | (refine zqn rfl ?_; apply Exists.intro))
 refine zqn rfl ⟨undef, ?_⟩;refine zqn rfl ⟨undef, ?_⟩
 iterate 6 (first | refine zqv rfl ?_ | (refine zqn rfl ?_; apply Exists.intro))
 refine zqbt ?_
 intro γ gv hsv hinj hbase;obtain ⟨g3, k3, e3⟩ := hsv 2 rfl;obtain ⟨oR, kR, gR, cR, e4⟩ := hsv 3 rfl
 (repeat (first | (refine zqx rfl ?_; (refine zAa ?_)) | ((first | refine zqm rfl (fun _ => rfl) ?_); (refine zAa ?_)) | refine zql rfl (fun _ => rfl) ?_))
 refine zqao #[.agg #[.int .i64 2, .int .i64 1, .slice oS2 2 kS2, .slice (some ⟨gC2, 0, none⟩) 1 kC2]] (enters_of Tryz.func206 zqb rfl) rfl e3 rfl rfl rfl rfl (zqcj (zqle _ _ _)) (by first | kernel_rfl | simp [go_sem]) ?_ ?_
 ·intro W hC hF
  obtain ⟨mm, rfl⟩ := hC;refine (cPub _ _ _ _ _ (HS2.out.later (zqo _ mm))).mono ?_
  rintro e w9 ⟨g9, c9, rfl, h1, hb9⟩;exact ⟨_, rfl, ⟨g9, c9, rfl⟩, fun g8 c8 e8 => by cases e8; exact h1, hb9⟩
 (refine zAa ?_)
 (repeat (first | (refine zqx rfl ?_; (refine zAa ?_)) | ((first | refine zqm rfl (fun _ => rfl) ?_); (refine zAa ?_)) | refine zql rfl (fun _ => rfl) ?_))
 refine zqao #[.agg #[.int .i64 2, .int .i64 0, .slice oS1 2 kS1, .slice (some ⟨gC1, 0, none⟩) 1 kC1], .int .i64 1, .slice (some ⟨g3, 0, none⟩) 1 k3] (enters_of Tryz.func205 zqb rfl) rfl e4 rfl rfl rfl rfl (zqh4 (zql6 _ _) (zqle _ _ _) rfl rfl (zqcj (zql6 _ _))) (by first | kernel_rfl | simp [go_sem]) ?_ ?_
 ·intro W hC hF
  obtain ⟨mm, rfl⟩ := hC;have hE0 : KkAt 1 (fun _ => q3) (.slice (some ⟨g3, 0, none⟩) 1 k3) (more w9 mm) := known hF (List.mem_cons_self ..) (by decide +kernel);refine (cTk _ _ _ _ _ _ _ (HS1.out.later (zqo _ mm)) (HC1.out.k32.later (zqo _ mm)) (Row32.k32 (hE0 g3 k3 rfl)) (hTT.out.later (Grew.more hG mm))).mono ?_
  rintro e w9 ⟨a9, b9, c9, d9, rfl, h1, hb9⟩;exact ⟨_, rfl, ⟨a9, b9, c9, d9, rfl⟩, fun a8 b8 c8 d8 e8 => by cases e8; exact h1, hb9⟩
 (refine zAa ?_)
 (repeat (first | (refine zqx rfl ?_; (refine zAa ?_)) | ((first | refine zqm rfl (fun _ => rfl) ?_ | ((try simp only [Nat.zero_add, Nat.reduceAdd]); apply zqbh _ _ zqy; (focus rfl); (focus (intro W; (first | exact zqbp _ | exact zqbf _ | exact zqby _ | exact zqbg _ | exact zero_rnode _ | exact zqa5 _ | exact zqwq _))); (focus (first | exact zqa4 _ _ _ | exact zqbd _ _ | rfl)); (focus (exact zqvd)))); (refine zAa ?_)) | refine zql rfl (fun _ => rfl) ?_ | ((try simp only [Nat.zero_add, Nat.reduceAdd]); apply zqbc (zqa3 (hbase _)); (focus rfl); (focus rfl); (focus rfl); (focus (first | exact zqad _ | exact zqaf _ _ | exact zq9 _ | rfl)); rotate_left 3; (focus (exact zqdu)); rotate_right 3; (focus kernel_rfl); (focus (first | exact zqi _ _ _ | rfl)); (focus (first | exact zqa1 _ _ _ | exact zqbk _ _ _ _ | kernel_rfl)); (focus (decide +kernel)); (focus (exact zqvd)))))
 (refine zqce ?_; rintro _ ⟨mq, rfl⟩ hF; simp only [List.forall_mem_cons] at hF; obtain ⟨fr, -, f4, -, -⟩ := hF)
 have hb : Below w9.heap.size w9 (more w9 mq) := zqo _ mq;replace ft := zqc hb ft;replace fp := zqc hb fp;replace fq := zqc hb fq;replace HS1 := hid1 (HS1.out.later hb);replace HC1 := hid1 (HC1.out.later hb);replace HS2 := hid1 (HS2.out.later hb);replace HC2 := hid1 (HC2.out.later hb);replace lft := zqa ft;replace lfp := zqa fp;replace lfq := zqa fq;replace hG := Grew.trans hG hb;have HX : Hid (Row32 29 (more w9 mq) gR 1 (fun _ => q3)) := f4 oR kR gR cR rfl;replace fr : zqe (more w9 mq) (γ 7) = some (.cells #[.int .i64 2, .int .i64 0, .slice oR 2 kR, .slice (some ⟨gR, 0, none⟩) 1 cR] 293) := fr;clear f4 hinj hbase hsv e3 e4 hb ft lft fp lfp HS1 HC1 cTk;generalize γ 7 = gr at *;generalize more w9 mq = w60 at *;clear γ gv;have lfr := zqa fr;go_wp2_with fail
 refine zqfo (fun k => k == 15 || k == 17 || k == 22) (fun k => match k with | 15 => fun u => KSl 1 u | 17 => fun u => KSl 1 u | 22 => fun u => KSl 1 u | _ => fun _ => True) (fun k => match k with | 15 => fun u w => KAt 1 (fun _ => q3) u w | 17 => fun u w => KAt 1 (fun _ => q3) u w | 22 => fun u w => KAt 1 (fun _ => q3) u w | _ => fun _ _ => True) (fun k => match k with | 15 => .slice none 1 0 | 17 => .slice none 1 0 | 22 => .slice none 1 0 | _ => undef) (fun i hi => ?_) zqb zqb ?_
 ·simp only [Bool.or_eq_true, beq_iff_eq] at hi
  rcases hi with (rfl | rfl) | rfl
  ·exact ⟨none, 0, rfl⟩
  ·exact ⟨none, 0, rfl⟩
  ·exact ⟨none, 0, rfl⟩
 iterate 15 (first | refine zqv rfl ?_ | (refine zqn rfl ?_; apply Exists.intro))
 refine zqn rfl ⟨undef, ?_⟩
 (first | refine zqv rfl ?_ | (refine zqn rfl ?_; apply Exists.intro))
 refine zqn rfl ⟨undef, ?_⟩
 iterate 4 (first | refine zqv rfl ?_ | (refine zqn rfl ?_; apply Exists.intro))
 refine zqn rfl ⟨undef, ?_⟩
 iterate 4 (first | refine zqv rfl ?_ | (refine zqn rfl ?_; apply Exists.intro))
 refine zqbt ?_
 intro γ gv hsv hinj hbase;obtain ⟨o5, k5, e5⟩ := hsv 15 rfl;obtain ⟨o6, k6, e6⟩ := hsv 17 rfl;obtain ⟨o7, k7, e7⟩ := hsv 22 rfl
 (repeat (first | (refine zqx rfl ?_; (refine zAa ?_)) | ((first | refine zqm rfl (fun _ => rfl) ?_ | (apply zqaa; (focus rfl); (focus rfl); (focus rfl); (focus (intro W hC hF; (have hbW : Below w60.heap.size w60 W := by obtain ⟨mm, rfl⟩ := hC; exact zqo w60 mm); go_big_quiet_want; go_big_quiet_op; (first | go_big_quiet_on | (apply Exists.intro; refine ⟨fun _ => ?_, ?_⟩; (focus ((with_reducible exact Calls.of_more (aw _ (hTT.out.later (Grew.more (Grew.trans hG hbW) _)))))); go_big_quiet_on)); exact wpQuiet_nil rfl)); (focus (first | exact fun _ => ⟨rfl, rfl⟩ | exact fun h => absurd h (by decide))))); (refine zAa ?_)) | refine zql rfl (fun _ => rfl) ?_))
 refine zqao #[.agg #[.int .i64 2, .int .i64 0, .slice oR 2 kR, .slice (some ⟨gR, 0, none⟩) 1 cR]] (enters_of Tryz.func208 zqb rfl) rfl e5 rfl rfl rfl rfl (zqcj (zqc6 _ _ _)) (by first | kernel_rfl | simp [go_sem]) ?_ ?_
 ·intro W hC hF
  obtain ⟨mm, rfl⟩ := hC;refine (cCo _ _ _ _ _ (HX.out.k32.later (zqo _ mm))).mono ?_
  rintro e w9 ⟨oa, cc, rfl, hK, hb9⟩;exact ⟨_, rfl, ⟨oa, cc, rfl⟩, fun oa2 c2 e2 => by cases e2; exact hK, hb9⟩
 (refine zAa ?_)
 (repeat (first | (refine zqx rfl ?_; (refine zAa ?_)) | ((first | refine zqm rfl (fun _ => rfl) ?_); (refine zAa ?_)) | refine zql rfl (fun _ => rfl) ?_))
 refine zqao #[.agg #[.int .i64 2, .int .i64 1, .slice oS2 2 kS2, .slice (some ⟨gC2, 0, none⟩) 1 kC2]] (enters_of Tryz.func206 zqb rfl) rfl e6 rfl rfl rfl rfl (zqh4 (zqc6 _ _ _) (zqc6 _ _ _) rfl rfl (zqcj (zqc6 _ _ _))) (by first | kernel_rfl | simp [go_sem]) ?_ ?_
 ·intro W hC hF
  obtain ⟨mm, rfl⟩ := hC;refine (cPub _ _ _ _ _ (HS2.out.later (zqo _ mm))).mono ?_
  rintro e w9 ⟨g9, c9, rfl, h1, hb9⟩;exact ⟨_, rfl, ⟨_, c9, rfl⟩, fun g8 c8 e8 => by cases e8; exact h1.k32, hb9⟩
 (refine zAa ?_)
 (repeat (first | (refine zqx rfl ?_; (refine zAa ?_)) | ((first | refine zqm rfl (fun _ => rfl) ?_ | (apply zqaa; (focus rfl); (focus rfl); (focus rfl); (focus (intro W hC hF; (have hbW : Below w60.heap.size w60 W := by obtain ⟨mm, rfl⟩ := hC; exact zqo w60 mm); (try (have hE1 : K32At W o5 1 (fun _ => q3) := known hF (List.mem_cons_of_mem _ (List.mem_cons_self ..)) (by decide +kernel) o5 k5 rfl)); (try (have hE2 : K32At W o6 1 (fun _ => q3) := known hF (List.mem_cons_self ..) (by decide +kernel) o6 k6 rfl)); go_big_quiet_want; go_big_quiet_op; (first | go_big_quiet_on | (apply Exists.intro; refine ⟨fun _ => ?_, ?_⟩; (focus ((exact Calls.of_more (zqd1 _ _ 1 _ _ (fun _ => q3) _ (by decide) (hE1.later (zqo W _)) (hE2.later (zqo W _)))))); go_big_quiet_on)); exact wpQuiet_nil rfl)); (focus (first | exact fun _ => ⟨rfl, rfl⟩ | exact fun h => absurd h (by decide))))); (refine zAa ?_)) | refine zql rfl (fun _ => rfl) ?_))
 refine zqao #[.agg #[.int .i64 2, .int .i64 1, .slice oS2 2 kS2, .slice (some ⟨gC2, 0, none⟩) 1 kC2]] (enters_of Tryz.func206 zqb rfl) rfl e7 rfl rfl rfl rfl (zqh4 (zqc6 _ _ _) (zqc6 _ _ _) rfl rfl (zqh4 (zqc6 _ _ _) (zqc6 _ _ _) rfl rfl (zqcj (zqc6 _ _ _)))) (by first | kernel_rfl | simp [go_sem]) ?_ ?_
 ·intro W hC hF
  obtain ⟨mm, rfl⟩ := hC;refine (cPub _ _ _ _ _ (HS2.out.later (zqo _ mm))).mono ?_
  rintro e w9 ⟨g9, c9, rfl, h1, hb9⟩;exact ⟨_, rfl, ⟨_, c9, rfl⟩, fun g8 c8 e8 => by cases e8; exact h1.k32, hb9⟩
 (refine zAa ?_)
 (repeat (first | (refine zqx rfl ?_; (refine zAa ?_)) | ((first | refine zqm rfl (fun _ => rfl) ?_ | (apply zqaa; (focus rfl); (focus rfl); (focus rfl); (focus (intro W hC hF; go_big_quiet_want; go_big_quiet_op; (first | go_big_quiet_on | (apply Exists.intro; refine ⟨fun _ => ?_, ?_⟩; (focus (fail)); go_big_quiet_on)); exact wpQuiet_nil rfl)); (focus (first | exact fun _ => ⟨rfl, rfl⟩ | exact fun h => absurd h (by decide))))); (refine zAa ?_)) | refine zql rfl (fun _ => rfl) ?_))
 (refine zqce ?_; rintro _ ⟨mq, rfl⟩ hF; simp only [List.forall_mem_cons] at hF; obtain ⟨-, -⟩ := hF)
 go_wp2;go_ret;exact ⟨rfl, Grew.more hG mq⟩
end Go.Proofs.YtfglcifnjaknnaaGreatDoor
namespace Go.Proofs.YtfglcifnjaknnaaGreatDoor
open Go.RowKit
theorem zq7l (k p : Nat -> Int) : zqbi k (fun _ => p) 1 = upOK k p := zqjt (k := k) (P := fun _ => p) (j := 0) rfl
theorem zrax (k : Nat -> Int) (P : Nat -> Nat -> Int) : zqbi k P 1 = upOK k (P 0) := zqjt (k := k) (P := P) (j := 0) rfl
theorem zqu6 (a b : Nat -> Int) : zqpr (fun _ => a) (fun _ => b) 2 0 1 0 = b := by
 obtain ⟨i, k, v, e1, _, _, _, _, _, e7⟩ := zqou 2 0 1 (by decide) (by decide) (by decide) (by decide);have hl : (zqac 2 0).length = 1 := by rw [zqdz]; rfl
 have hi : i < 1 := by have := (List.getElem?_eq_some_iff.1 e1).1; omega
 rw [e7 _ _ 0 (by omega)];unfold updR;rw [if_pos (by omega)]
attribute [local irreducible] zqda zqbw oneF macF shaF strOf keyV shV pubV upF upOK pubF
theorem zqrl (aw : ∀ W : World, Tabs W -> Calls Tryz.prog 207 #[] W (Rt W (.bool true))) (w : World) (hT : Tabs w) :
  Calls Tryz.prog 201 #[] w (Rt w (.bool true)) := by
 obtain ⟨z1, hz1⟩ : ∃ z, upd zqd 0 1 = z := ⟨_, rfl⟩
 obtain ⟨z2, hz2⟩ : ∃ z, upd zqd 0 2 = z := ⟨_, rfl⟩
 obtain ⟨z3, hz3⟩ : ∃ z, upd zqd 0 3 = z := ⟨_, rfl⟩
 have b1 : Bytes 32 z1 := by rw [<- hz1]; exact zqid 1 (by decide) (by decide)
 have b2 : Bytes 32 z2 := by rw [<- hz2]; exact zqid 2 (by decide) (by decide)
 have b3 : Bytes 32 z3 := by rw [<- hz3]; exact zqid 3 (by decide) (by decide)
 have hL : ∀ i, i < 2 -> Bytes 32 (two z1 z2 i) := fun i hi => by
  unfold two
  split
  ·exact b1
  ·exact b2
 have l0 : (zqac 2 0).length = 1 := by rw [zqdz]; rfl
 have l1 : (zqac 2 1).length = 1 := by rw [zqes]; rfl
 have cC0 := fun (g c : Nat) (W : World) (h : Row64 W g 3 (prF (two z1 z2) 2)) => zqf4 (zqd7 (two z1 z2) 2) (fun i => pubF (zqd7 (two z1 z2) 2 i)) g 3 c 2 0 W rfl (by decide) (by decide) (by decide) (by decide) h;have cC1 := fun (g c : Nat) (W : World) (h : Row64 W g 3 (prF (two z1 z2) 2)) => zqf4 (zqd7 (two z1 z2) 2) (fun i => pubF (zqd7 (two z1 z2) 2 i)) g 3 c 2 1 W rfl (by decide) (by decide) (by decide) (by decide) h;rw [show (0 : Int) = ((0 : Nat) : Int) from rfl, show ((2 : Nat) : Int) = ((2 : Nat) : Int) from rfl, zqcy (by decide) (by decide) (by decide)] at cC0;rw [show (1 : Int) = ((1 : Nat) : Int) from rfl, zqcy (by decide) (by decide) (by decide)] at cC1;have e0 := zqt9 (two z1 z2);have e1 := zqt8 (two z1 z2);rw [zqdz] at cC0 e0;rw [zqes] at cC1 e1;have t0 : two z1 z2 0 = z1 := rfl;have t1 : two z1 z2 1 = z2 := rfl
 rw [t1] at e0;rw [t0] at e1;refine zqpt z1 z2 z3 (pubF z1) (pubF z2) (pubF z3) (zqb2 z1 (fun _ => pubF z2)) (zqb2 z3 (fun _ => pubF z1)) (prF (two z1 z2) 2) w hT hz1 hz2 hz3 aw
  (fun ad W h hT => zqre (two z1 z2) (some ad) 2 3 2 W rfl (by decide) (by decide) hL h hT)
  (fun g c W h => (cC0 g c W h).mono fun e w' ⟨oa, cc, a, hK, hb⟩ => ⟨oa, cc, a, hK.one_eq e0, hb⟩)
  (fun g c W h => (cC1 g c W h).mono fun e w' ⟨oa, cc, a, hK, hb⟩ => ⟨oa, cc, a, hK.one_eq e1, hb⟩)
  (fun o c W h hT => zqph z1 (fun _ => pubF z2) o 2 0 1 c W (by decide) (by decide) (by decide) l0 b1 (fun _ _ => zqek _) (by rw [zq7l]; exact zraw z1 z2 b1 b2) h hT)
  (fun o c W h hT => zqph z3 (fun _ => pubF z1) o 2 1 1 c W (by decide) (by decide) (by decide) l1 b3 (fun _ _ => zqek _) (by rw [zq7l]; exact zraw z3 z1 b3 b1) h hT)
  (fun oS oC kS kC W h => (zqkj 2 1 oS oC 1 kS kC (zqb2 z3 (fun _ => pubF z1)) W (by decide) (by decide) (fun i _ => zqk4 z3 _ b3 i) h).mono fun e w' ⟨g, c, a, hR, hb⟩ => ⟨g, c, a, hR.congr fun j hj => by
   obtain rfl : j = 0 := by omega
   rfl, hb⟩)
  (fun oS oC o kS kC c W h1 h2 h3 hT => (zqx7 2 0 1 1 1 kS kC c oS oC o (zqb2 z1 (fun _ => pubF z2)) (fun _ => pubF z2) (fun _ => pubF z3) W hT (by decide) (by decide) (by decide) (by decide) (by decide) l0 l1 b1 (fun _ _ => zqek _) (fun _ _ => zqek _) (by
   rw [zrax, zqu6];exact zraw z1 z3 b1 b3) h1 h2 h3).mono fun e w' ⟨oS, kS, gC, kC, a, _, hR, hb⟩ => ⟨oS, kS, gC, kC, a, hR.congr fun j hj => by
   obtain rfl : j = 0 := by omega
   exact zqu6 _ _, hb⟩)
  (fun oS oC kS kC W h => zqmq 2 0 oS oC 2 kS 1 kC (fun _ => pubF z3) W (by decide) (by decide) h)
theorem zqrt (aw : ∀ W : World, Tabs W -> Calls Tryz.prog 225 #[] W (Rt W (.bool true))) (w : World) (hT : Tabs w) :
  Calls Tryz.prog 207 #[] w (Rt w (.bool true)) := by
 have hG := Grew.refl w
 go_enter Tryz.func207, Tryz.ntmps207
 go_wp2_with fail
 (refine (aw _ hT).mono ?_; rintro e w1 ⟨rfl, hb⟩; replace hG : Below w.heap.size w w1 := Grew.trans (by exact zqf) hb; clear hb)
 go_wp2;go_ret;exact ⟨rfl, by exact zqf⟩
end Go.Proofs.YtfglcifnjaknnaaGreatDoor
