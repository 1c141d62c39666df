/- L13 -/
import Derived.Test.YtfglcifnjaknnaaGreatDoorR12
import Derived.Test.YtfglcifnjaknnaaGreatDoorTrk
import Derived.Test.YtfglcifnjaknnaaGreatDoorQ13
import Derived.Test.YtfglcifnjaknnaaGreatDoorL12
import Derived.Test.YtfglcifnjaknnaaGreatDoorR10
import Derived.Test.YtfglcifnjaknnaaGreatDoorFrame
import Derived.Test.YtfglcifnjaknnaaGreatDoorNds
import Derived.ChangeSame
import Derived.Test.YtfglcifnjaknnaaGreatDoorRefN
import Derived.Test.YtfglcifnjaknnaaGreatDoorL11
import Derived.Test.YtfglcifnjaknnaaGreatDoorQ9
import Derived.Test.YtfglcifnjaknnaaGreatDoorQ11
import Derived.Test.YtfglcifnjaknnaaGreatDoorQ12
set_option linter.unusedVariables false
set_option linter.unusedSimpArgs false
set_option maxRecDepth 100000
set_option maxHeartbeats 4000000
namespace Go.Proofs.YtfglcifnjaknnaaGreatDoor
open Go.RowKit
attribute [local irreducible] zqda zqbw oneF macF shaF strOf keyV shV pubV upF upOK pubF
theorem zqd1 (oa ob : Option Addr) (n c d : Nat) (F : Nat -> Nat -> Int) (w : World) (hn : n <= 100000) (hA : K32At w oa n F) (hB : K32At w ob n F) :
  Calls Tryz.prog 33 #[.slice oa n c, .slice ob n d] w (Rt w (.bool true)) := by
 have HA : Hid (K32At w oa n F) := hA;have HB : Hid (K32At w ob n F) := hB;clear hA hB
 go_enter Tryz.func33, Tryz.ntmps33
 go_wp2_with fail
 go_loopw [13, 5] (fun i _ wr => ∃ k : Nat, k <= n /\ i = .int .i64 k /\ Below w.heap.size w wr) (fun i _ _ => n - (intOf i).toNat)
 case atStart => exact ⟨0, by omega, rfl, Grew.refl _⟩
 case round =>
  obtain ⟨k, hk, rfl, hM⟩ := hrel
  by_cases hlt : k < n
  ·obtain ⟨ad, rfl⟩ := HA.out.addr (by omega)
   obtain ⟨bd, rfl⟩ := HB.out.addr (by omega);have l1 := fun q : More => HA.out.loadK hlt (Grew.more hM q);have l2 := fun q : More => HB.out.loadK hlt (Grew.more hM q);have hsm := zqdv 32 (F k);have hi1 : (k : Int) < (n : Int) := by omega
   have hi0 : (0 : Int) <= (k : Int) := by omega
   go_wp2_with fail
   ((first | (with_reducible refine zqab zqb zqb ?_) | refine zq2 zqb zqb ?_); (refine zAi ?_); refine wpQuiet_nil ?_; rintro _ ⟨mq, rfl⟩)
   have hM2 := Grew.trans hM (zqo wr mq);clear l1 l2;generalize more wr mq = w2 at *;go_wp2
   go_roundw
   case rel => first | exact ⟨k + 1, by omega, by go_num, hM2⟩ | ((repeat' apply Exists.intro) <;> first | exact ⟨⟨k + 1, by omega, by go_num, hM2⟩, rfl⟩ | exact undef)
   case measure => (simp [intOf] <;> omega)
  ·obtain rfl : k = n := by omega
   go_wp2;go_ret;exact ⟨rfl, hM⟩
end Go.Proofs.YtfglcifnjaknnaaGreatDoor
namespace Go.Proofs.YtfglcifnjaknnaaGreatDoor
open Go.RowKit
theorem zqif : zqw 2 = 1 := by decide
theorem zqps : zqae 0 2 = [⟨0, 2⟩, ⟨0, 1⟩, ⟨1, 1⟩] := by rw [zqa9 (by decide), zqif, zqbl (by decide), zqbl (by decide)]; rfl
theorem zqdz : zqac 2 0 = [⟨1, 1⟩] := by unfold zqac; rw [zqdn (by decide) (by rw [zqif]; decide), zqif, zqdd (by decide)]; rfl
theorem zqes : zqac 2 1 = [⟨0, 1⟩] := by unfold zqac; rw [zqc1 (by decide) (by rw [zqif]; decide), zqif, zqdd (by decide)]; rfl
theorem zqyq (L : Nat -> Nat -> Int) : zqd7 L 2 1 = L 0 := zqju L (by rw [zqps]; rfl)
theorem zq0x (L : Nat -> Nat -> Int) : zqd7 L 2 2 = L 1 := zqju L (by rw [zqps]; rfl)
theorem zqt9 (L : Nat -> Nat -> Int) : cpF (fun i => pubF (zqd7 L 2 i)) 2 (zqac 2 0) 0 = pubF (L 1) := by
 rw [zqvm L 2 0 (by decide) (by decide) 0 (by rw [zqdz]; decide)];unfold copF;rw [zqgr (v := ⟨1, 1⟩) (by rw [zqdz]; rfl), zqog]
theorem zqt8 (L : Nat -> Nat -> Int) : cpF (fun i => pubF (zqd7 L 2 i)) 2 (zqac 2 1) 0 = pubF (L 0) := by
 rw [zqvm L 2 1 (by decide) (by decide) 0 (by rw [zqes]; decide)];unfold copF;rw [zqgr (v := ⟨0, 1⟩) (by rw [zqes]; rfl), zqog]
theorem K32At.tail {w : World} {ad : Addr} {n : Nat} {F : Nat -> Nat -> Int} (h : K32At w (some ad) (n + 1) F) : K32At w (some (ad.add 32)) n (fun i => F (i + 1)) := by
 rcases h with h | ⟨ad', e, hl⟩
 ·omega
 ·cases e
  refine .inr ⟨_, rfl, fun w' hb j hj i hi => ?_⟩;have := hl w' hb (j + 1) (by omega) i hi;rw [Go.Deep.add_add, show 32 + (j * 32 + i) = (j + 1) * 32 + i by omega];exact this
theorem K32At.one_eq {w : World} {oa : Option Addr} {F : Nat -> Nat -> Int} {k : Nat -> Int} (h : K32At w oa 1 F) (e : F 0 = k) : K32At w oa 1 (fun _ => k) := h.congr fun j hj => by
 obtain rfl : j = 0 := by omega
 exact e
theorem K32At.init {w : World} {oa : Option Addr} {n m : Nat} {F : Nat -> Nat -> Int} (h : K32At w oa n F) (hm : m <= n) : K32At w oa m F := by
 rcases h with h | ⟨ad, e, hl⟩
 ·exact .inl (by omega)
 ·exact .inr ⟨ad, e, fun w' hb j hj i hi => hl w' hb j (by omega) i hi⟩
@[go_sem] theorem zrhl (w : World) : (zqcs (.int .u8 2)).run Tryz.prog w = .ok (.value (.agg (ints .u8 32 (upd zqd 0 2)))) w := by kernel_rfl
theorem zqid (k : Int) (h0 : 0 <= k) (h1 : k <= 255) : Bytes 32 (upd zqd 0 k) := fun i _ => by
 unfold upd
 split
 ·exact ⟨h0, h1⟩
 ·exact ⟨Int.le_refl 0, by show (0 : Int) <= 255; decide⟩
attribute [local irreducible] zqda zqbw oneF macF shaF strOf keyV shV pubV upF upOK pubF
theorem zqsy (aw : ∀ W : World, Tabs W -> Calls Tryz.prog 237 #[] W (Rt W (.bool true))) (w : World) (hT : Tabs w) :
  Calls Tryz.prog 233 #[] w (Rt w (.bool true)) := by
 have hG := Grew.refl w
 go_enter Tryz.func233, Tryz.ntmps233
 go_wp2_with fail
 (refine (aw _ hT).mono ?_; rintro e w1 ⟨rfl, hb⟩; replace hG : Below w.heap.size w w1 := Grew.trans (by exact zqf) hb; clear hb)
 go_wp2;go_ret;exact ⟨rfl, by exact zqf⟩
theorem zqs0 (aw : ∀ W : World, Tabs W -> Calls Tryz.prog 233 #[] W (Rt W (.bool true))) (w : World) (hT : Tabs w) :
  Calls Tryz.prog 225 #[] w (Rt w (.bool true)) := by
 have hTT : Hid (Tabs w) := hT;clear hT;obtain ⟨z1, hz1⟩ : ∃ z, upd zqd 0 1 = z := ⟨_, rfl⟩
 obtain ⟨z2, hz2⟩ : ∃ z, upd zqd 0 2 = z := ⟨_, rfl⟩
 have b1 : Bytes 32 z1 := by rw [<- hz1]; exact zqid 1 (by decide) (by decide)
 have b2 : Bytes 32 z2 := by rw [<- hz2]; exact zqid 2 (by decide) (by decide)
 have hL : ∀ i, i < 2 -> Bytes 32 (two z1 z2 i) := fun i hi => by
  unfold two
  split
  ·exact b1
  ·exact b2
 have cM := fun (ad : Addr) (W : World) (h : K32At W (some ad) 2 (two z1 z2)) (hT : Tabs W) => zqre (two z1 z2) (some ad) 2 3 2 W rfl (by decide) (by decide) hL h hT;have cP := fun (g c : Nat) (W : World) (h : Row64 W g 3 (prF (two z1 z2) 2)) => zqoc (zqd7 (two z1 z2) 2) (fun i => pubF (zqd7 (two z1 z2) 2 i)) g 3 c W (by decide) h;have cC0 := fun (g c : Nat) (W : World) (h : Row64 W g 3 (prF (two z1 z2) 2)) => zqf4 (zqd7 (two z1 z2) 2) (fun i => pubF (zqd7 (two z1 z2) 2 i)) g 3 c 2 0 W rfl (by decide) (by decide) (by decide) (by decide) h;have cC1 := fun (g c : Nat) (W : World) (h : Row64 W g 3 (prF (two z1 z2) 2)) => zqf4 (zqd7 (two z1 z2) 2) (fun i => pubF (zqd7 (two z1 z2) 2 i)) g 3 c 2 1 W rfl (by decide) (by decide) (by decide) (by decide) h
 rw [show (0 : Int) = ((0 : Nat) : Int) from rfl, show ((2 : Nat) : Int) = ((2 : Nat) : Int) from rfl, zqcy (by decide) (by decide) (by decide)] at cC0;rw [show (1 : Int) = ((1 : Nat) : Int) from rfl, zqcy (by decide) (by decide) (by decide)] at cC1;have e0 := zqt9 (two z1 z2);have e1 := zqt8 (two z1 z2);have t1 := zqyq (two z1 z2);have t2 := zq0x (two z1 z2);rw [zqdz] at cC0 e0;rw [zqes] at cC1 e1;have hG := Grew.refl w
 go_enter Tryz.func225, Tryz.ntmps225
 go_wp2_with fail;have fl : zqe (w.alloc (.cells (ints .u8 64 (rowK (two z1 z2))) 29)) w.heap.size = some (.cells (ints .u8 64 (rowK (two z1 z2))) 29) := zqg _ _ _ rfl;have hK0 : K32At (w.alloc (.cells (ints .u8 64 (rowK (two z1 z2))) 29)) (some ⟨w.heap.size, 0, none⟩) 2 (two z1 z2) := zqha fl (by decide) (zqy7 (two z1 z2) 2);have hG1 : Below w.heap.size w (w.alloc (.cells (ints .u8 64 (rowK (two z1 z2))) 29)) := Grew.alloc hG _;have hTT1 : Tabs (w.alloc (.cells (ints .u8 64 (rowK (two z1 z2))) 29)) := hTT.out.later hG1;refine (cM _ _ hK0 hTT1).mono ?_
 rintro e w2 ⟨g, c, rfl, hR, hb2⟩;have HR2 : Hid (Row64 w2 g 3 (prF (two z1 z2) 2)) := hR;have hG2 : Below w.heap.size w w2 := Grew.trans hG1 hb2;clear fl hK0 hG1 hTT1 hR hb2 hG;go_wp2_with fail;have ft : zqe (w2.alloc (.cells #[.slice (some ⟨g, 0, none⟩) 3 c] 289)) w2.heap.size = some (.cells #[.slice (some ⟨g, 0, none⟩) 3 c] 289) := zqg _ _ _ rfl;have hG : Below w.heap.size w (w2.alloc (.cells #[.slice (some ⟨g, 0, none⟩) 3 c] 289)) := Grew.alloc hG2 _;have HR : Hid (Row64 (w2.alloc (.cells #[.slice (some ⟨g, 0, none⟩) 3 c] 289)) g 3 (prF (two z1 z2) 2)) := HR2.out.later (Grew.alloc (Grew.refl _) _);have lft := zqa ft;clear HR2 hG2;generalize w2.alloc (.cells #[.slice (some ⟨g, 0, none⟩) 3 c] 289) = w3 at *;generalize w2.heap.size = gt at *;refine (cP g c _ HR.out).mono ?_
 rintro e w4 ⟨oP, kP, rfl, hkP, hP, hb4⟩;replace ft := zqc hb4 ft;replace hG := Grew.trans hG hb4;have HR4 : Hid (Row64 w4 g 3 (prF (two z1 z2) 2)) := HR.out.later hb4;obtain ⟨aP, rfl⟩ := hP.addr (by omega);have HP : Hid (K32At w4 (some aP) 2 (fun i => pubF (zqd7 (two z1 z2) 2 (i + 1)))) := hP;clear HR hP hb4 lft cP cM;have lft := zqa ft;have hP0 := (K32At.init (m := 1) HP.out (by decide)).one_eq (k := pubF (two z1 z2 0)) (by rw [<- t1]);have hP1 := (K32At.tail HP.out).one_eq (k := pubF (two z1 z2 1)) (by rw [<- t2]);have cD0 : ∀ W : World, Row64 W g 3 (prF (two z1 z2) 2) -> Calls Tryz.prog 204 #[.agg #[.slice (some ⟨g, 0, none⟩) 3 c], .int .i64 0] W (fun e w' => ∃ oa c, e = .returned (.slice oa 1 c) /\ K32At w' oa 1 (fun _ => pubF (two z1 z2 1)) /\ Below W.heap.size W w') := fun W h => by
  refine (cC0 g c W h).mono ?_
  rintro e w9 ⟨oa, cc, rfl, hK, hb⟩;exact ⟨oa, cc, rfl, hK.one_eq e0, hb⟩
 have cD1 : ∀ W : World, Row64 W g 3 (prF (two z1 z2) 2) -> Calls Tryz.prog 204 #[.agg #[.slice (some ⟨g, 0, none⟩) 3 c], .int .i64 1] W (fun e w' => ∃ oa c, e = .returned (.slice oa 1 c) /\ K32At w' oa 1 (fun _ => pubF (two z1 z2 0)) /\ Below W.heap.size W w') := fun W h => by
  refine (cC1 g c W h).mono ?_
  rintro e w9 ⟨oa, cc, rfl, hK, hb⟩;exact ⟨oa, cc, rfl, hK.one_eq e1, hb⟩
 have HP0 : Hid (K32At w4 (some aP) 1 (fun _ => pubF (two z1 z2 0))) := hP0;have HP1 : Hid (K32At w4 (some (aP.add 32)) 1 (fun _ => pubF (two z1 z2 1))) := hP1;clear hP0 hP1 HP cC0 cC1 e0 e1;generalize pubF (two z1 z2 0) = q1 at *;generalize pubF (two z1 z2 1) = q2 at *;have hk1 : (1 : Int) <= (kP : Int) := by omega
 have hk2 : (2 : Int) <= (kP : Int) := by omega
 go_wp2_with fail;refine zqfo (fun k => k == 11 || k == 18) (fun k => match k with | 11 => fun u => KSl 1 u | 18 => fun u => KSl 1 u | _ => fun _ => True) (fun k => match k with | 11 => fun u w => KAt 1 (fun _ => q2) u w | 18 => fun u w => KAt 1 (fun _ => q1) u w | _ => fun _ _ => True) (fun k => match k with | 11 => .slice none 1 0 | 18 => .slice none 1 0 | _ => undef) (fun i hi => ?_) zqb zqb ?_
 ·simp only [Bool.or_eq_true, beq_iff_eq] at hi
  rcases hi with rfl | rfl
  ·exact ⟨none, 0, rfl⟩
  ·exact ⟨none, 0, rfl⟩
 (first | refine zqv rfl ?_ | (refine zqn rfl ?_; apply Exists.intro))
 (first | refine zqv rfl ?_ | (refine zqn rfl ?_; apply Exists.intro))
 (first | refine zqv rfl ?_ | (refine zqn rfl ?_; apply Exists.intro))
 (first | refine zqv rfl ?_ | (refine zqn rfl ?_; apply Exists.intro))
 (first | refine zqv rfl ?_ | (refine zqn rfl ?_; apply Exists.intro))
 (first | refine zqv rfl ?_ | (refine zqn rfl ?_; apply Exists.intro))
 (first | refine zqv rfl ?_ | (refine zqn rfl ?_; apply Exists.intro))
 (first | refine zqv rfl ?_ | (refine zqn rfl ?_; apply Exists.intro))
 (first | refine zqv rfl ?_ | (refine zqn rfl ?_; apply Exists.intro))
 (first | refine zqv rfl ?_ | (refine zqn rfl ?_; apply Exists.intro))
 (first | refine zqv rfl ?_ | (refine zqn rfl ?_; apply Exists.intro))
 refine zqn rfl ⟨undef, ?_⟩
 (first | refine zqv rfl ?_ | (refine zqn rfl ?_; apply Exists.intro))
 (first | refine zqv rfl ?_ | (refine zqn rfl ?_; apply Exists.intro))
 (first | refine zqv rfl ?_ | (refine zqn rfl ?_; apply Exists.intro))
 (first | refine zqv rfl ?_ | (refine zqn rfl ?_; apply Exists.intro))
 (first | refine zqv rfl ?_ | (refine zqn rfl ?_; apply Exists.intro))
 (first | refine zqv rfl ?_ | (refine zqn rfl ?_; apply Exists.intro))
 refine zqn rfl ⟨undef, ?_⟩
 (first | refine zqv rfl ?_ | (refine zqn rfl ?_; apply Exists.intro))
 (first | refine zqv rfl ?_ | (refine zqn rfl ?_; apply Exists.intro))
 (first | refine zqv rfl ?_ | (refine zqn rfl ?_; apply Exists.intro))
 (first | refine zqv rfl ?_ | (refine zqn rfl ?_; apply Exists.intro))
 (first | refine zqv rfl ?_ | (refine zqn rfl ?_; apply Exists.intro))
 refine zqbt ?_
 intro γ gv hsv hinj hbase;obtain ⟨o3, k3, e3⟩ := hsv 11 rfl;obtain ⟨o4, k4, e4⟩ := hsv 18 rfl
 (refine zAe ?_)
 refine zqao #[.agg #[.slice (some ⟨g, 0, none⟩) 3 c], .int .i64 0] (enters_of Tryz.func204 zqb rfl) rfl e3 rfl rfl rfl rfl (zqcj (zqc6 _ _ _)) (by first | kernel_rfl | simp [go_sem]) ?_ ?_
 ·intro W hC hF
  obtain ⟨mm, rfl⟩ := hC;refine (cD0 _ (HR4.out.later (zqo _ mm))).mono ?_
  rintro e w9 ⟨oa, cc, rfl, hK, hb9⟩;exact ⟨_, rfl, ⟨oa, cc, rfl⟩, fun oa2 c2 e2 => by cases e2; exact hK, hb9⟩
 (refine zAa ?_)
 (refine zAe ?_)
 refine zqao #[.agg #[.slice (some ⟨g, 0, none⟩) 3 c], .int .i64 1] (enters_of Tryz.func204 zqb rfl) rfl e4 rfl rfl rfl rfl (zqh4 (zqc6 _ _ _) (zqc6 _ _ _) rfl rfl (zqcj (zqc6 _ _ _))) (by first | kernel_rfl | simp [go_sem]) ?_ ?_
 ·intro W hC hF
  obtain ⟨mm, rfl⟩ := hC;refine (cD1 _ (HR4.out.later (zqo _ mm))).mono ?_
  rintro e w9 ⟨oa, cc, rfl, hK, hb9⟩;exact ⟨_, rfl, ⟨oa, cc, rfl⟩, fun oa2 c2 e2 => by cases e2; exact hK, hb9⟩
 (refine zAa ?_)
 (refine zAe ?_)
 (refine zqce ?_; rintro _ ⟨mq, rfl⟩ hF; simp only [List.forall_mem_cons] at hF; obtain ⟨-, -⟩ := hF)
 go_wp2;go_ret;exact ⟨rfl, Grew.more hG mq⟩
end Go.Proofs.YtfglcifnjaknnaaGreatDoor
namespace Go.Proofs.YtfglcifnjaknnaaGreatDoor
open Go.ChangeShapes Go.WideShapes Go.ChangeAt Go.RowKit

end Go.Proofs.YtfglcifnjaknnaaGreatDoor
namespace Go.Proofs.YtfglcifnjaknnaaGreatDoor
open Go.RowKit

end Go.Proofs.YtfglcifnjaknnaaGreatDoor
namespace Go.Proofs.YtfglcifnjaknnaaGreatDoor
open Go.ChangeShapes Go.WideShapes Go.ChangeAt Go.RowKit
open Go.ChangeMaps (open_string shut_string)
theorem aw9 (W : World) (h : Tabs W) : Calls Tryz.prog 245 #[] W (Rt W (.bool true)) := zqyc zrbv W h
theorem aw10 (W : World) (h : Tabs W) : Calls Tryz.prog 242 #[] W (Rt W (.bool true)) := zqte (fun W h => zqr1 zrj6 zris aw9 W h) W h
theorem aw11 (W : World) (h : Tabs W) : Calls Tryz.prog 241 #[] W (Rt W (.bool true)) := zqsa allC aw10 W h
theorem aw12 (W : World) (h : Tabs W) : Calls Tryz.prog 237 #[] W (Rt W (.bool true)) := zqr6 zrdn ofC zrfo (fun W h => zqs6 aw11 W h) W h
end Go.Proofs.YtfglcifnjaknnaaGreatDoor
