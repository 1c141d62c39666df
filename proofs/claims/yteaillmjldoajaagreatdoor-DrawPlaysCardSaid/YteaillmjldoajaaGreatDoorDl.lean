/- Dl -/
import Derived.Test.YteaillmjldoajaaGreatDoorDr
import Derived.Test.YteaillmjldoajaaGreatDoorR12
import Derived.Test.YteaillmjldoajaaGreatDoorQ12
import Derived.Test.YteaillmjldoajaaGreatDoorR10
set_option maxRecDepth 100000
set_option maxHeartbeats 4000000
namespace Go.Proofs.YteaillmjldoajaaGreatDoor
open Go.RowKit Go.Extern
set_option linter.unusedVariables false
set_option linter.unusedSimpArgs false
theorem or_fourD {a b c d G : Prop} (h : a ∨ b ∨ c ∨ d) (h1 : a → G) (h2 : b → G) (h3 : c → G) (h4 : d → G) : G := by
 rcases h with h | h | h | h
 ·exact h1 h
 ·exact h2 h
 ·exact h3 h
 ·exact h4 h
theorem hidD {p : Prop} (h : p) : Hid p := h
theorem run_call_app (ρ : Operand → Value) (d : Option Tmp) (x y : Operand) (t : TypeId) (pos : String) (af : Array Edge) (g : Option (Nat × Bool)) (W : World) :
  (execOp ρ ⟨d, .call { callee := .builtin .append, args := #[x, y], argTypes := #[27, 27] }, t, pos, af, g⟩).run Tryz.prog W = (appendNext #[27, 27] t #[ρ x, ρ y]).run Tryz.prog W := by
 simp [execOp, go_sem]
section
variable {P : Program} {md : Region.Mode} {ops : Array Oper} {C : World → Prop} {V : Vals} {γ : Nat → Nat} {Q : Exit → Act → World → Prop}
theorem rel_varyv {k : Nat} {d : Tmp} {op : Op} {t : TypeId} {pos : String} {af : Array Edge} {g : Option (Nat × Bool)} {rest : List Oper} {F : List Known} {a : Act} {u0 : Value} {Φ : Value → World → Prop} {Sh : Value → Prop}
  (hk : (isCall ⟨some d, op, t, pos, af, g⟩ && !isNew ⟨some d, op, t, pos, af, g⟩) = true) (hv : V.vary k = true) (hu : V k = u0) (hΦ : V.fact k = Φ) (hsh : V.sh k = Sh) (hw : Region.wanted ⟨some d, op, t, pos, af, g⟩ (yielded ops a.tmps) = true) (hd : decide (d < a.tmps.size) = true)
  (hf : Fits (some ⟨k, Φ u0, none⟩) F)
  (h1 : ∀ W, C W → (∀ x ∈ F, waitsT md ops 3 k x.i = true → x.fact W) → ∃ u w', (execOp a.eval ⟨some d, op, t, pos, af, g⟩).run P W = .ok (.value u) w' ∧ Sh u ∧ Φ u w' ∧ Below W.heap.size W w')
  (next : wpQuiet P ops (fun _ => True) (fun a' => wpRel P md ops C V γ Q (k + 1) rest (⟨k, Φ u0, none⟩ :: F) a') [⟨some d, .move (.const u0), 0, "", #[], none⟩] a) : wpRel P md ops C V γ Q k (⟨some d, op, t, pos, af, g⟩ :: rest) F a := by
 subst hu
 subst hΦ
 subst hsh
 rw [Bool.and_eq_true, Bool.not_eq_true'] at hk
 refine ⟨V k, some ⟨k, V.fact k (V k), none⟩, .inl ⟨hw, fun _ => rfl, (fun x hx => by cases hx; rfl), hf, fun w hC hF _ => ?_⟩, wpRel_put next⟩
 obtain ⟨u, w', e, h2, h3, h4⟩ := h1 w hC hF
 rw [e]
 exact .inr ⟨hk.1, hk.2, hv, rfl, h2, h3, h4⟩
end
section
variable {md : Region.Mode} {ops : Array Oper} {C : World → Prop} {V : Vals} {γ : Nat → Nat} {Q : Exit → Act → World → Prop}
theorem rel_appv {k : Nat} {d : Tmp} {x y : Operand} {t : TypeId} {pos : String} {af : Array Edge} {g : Option (Nat × Bool)} {rest : List Oper} {F : List Known} {a : Act} {u0 : Value} {Φ : Value → World → Prop} {Sh : Value → Prop} (vx vy : Value)
  (hv : V.vary k = true) (hu : V k = u0) (hΦ : V.fact k = Φ) (hsh : V.sh k = Sh) (hw : Region.wanted ⟨some d, .call { callee := .builtin .append, args := #[x, y], argTypes := #[27, 27] }, t, pos, af, g⟩ (yielded ops a.tmps) = true) (hd : decide (d < a.tmps.size) = true)
  (hf : Fits (some ⟨k, Φ u0, none⟩) F) (hx : a.eval x = vx) (hy : a.eval y = vy)
  (h1 : ∀ W, C W → (∀ x ∈ F, waitsT md ops 3 k x.i = true → x.fact W) → ∃ u w', (appendNext #[27, 27] t #[vx, vy]).run Tryz.prog W = .ok (.value u) w' ∧ Sh u ∧ Φ u w' ∧ Below W.heap.size W w')
  (next : wpQuiet Tryz.prog ops (fun _ => True) (fun a' => wpRel Tryz.prog md ops C V γ Q (k + 1) rest (⟨k, Φ u0, none⟩ :: F) a') [⟨some d, .move (.const u0), 0, "", #[], none⟩] a) : wpRel Tryz.prog md ops C V γ Q k (⟨some d, .call { callee := .builtin .append, args := #[x, y], argTypes := #[27, 27] }, t, pos, af, g⟩ :: rest) F a :=
 rel_varyv rfl hv hu hΦ hsh hw hd hf (fun W hC hF => by rw [run_call_app, hx, hy]; exact h1 W hC hF) next
end
def KSlD (n : Nat) (u : Value) : Prop := ∃ oa c, u = .slice oa n c
def MFa (B q : Nat) (L : Nat → Nat → Int) (u : Value) (w : World) : Prop := ∀ oa c, u = .slice oa q c → ∃ g, B ≤ g ∧ Mine 31 w g oa q c L
theorem stab_mfa (B q : Nat) (L : Nat → Nat → Int) (u : Value) : Stab (MFa B q L u) none := fun w w' h e oa c hu => by
 obtain ⟨g, h1, h2⟩ := h oa c hu
 exact ⟨g, h1, h2.obj fun cs h => keep_below e h⟩
theorem app_cat {W : World} {oa2 : Option Addr} {q c : Nat} {L : Nat → Nat → Int} {B : Nat} (ad : Addr) (hD : K32At W oa2 q L) (hq : q ≤ 1000000) (hB : B ≤ W.heap.size) :
  ∃ u w', (∀ ty : TypeId, (appendNext #[27, 27] ty #[.slice (some ad) 0 0, .slice oa2 q c]).run Tryz.prog W = .ok (.value u) w') ∧ KSlD q u ∧ MFa B q L u w' ∧ Below W.heap.size W w' := by
 obtain ⟨g3, oa3, c3, w3, hr3, hM3, h3⟩ := app32 (i := (Tryz.prog.info? 31).get (by kernel_rfl)) (z := ((Tryz.prog.info? 31).get (by kernel_rfl)).zero.get (by kernel_rfl)) (c2 := c) Tryz.underlying27 (by kernel_rfl) (by kernel_rfl) (by kernel_rfl) (by kernel_rfl) (by kernel_rfl) W W.heap.size (some ad) oa2 0 0 q L L (Mine.nil _ _ _ _ _) hD (by omega)
 simp only [Nat.zero_add] at hr3 hM3
 refine ⟨_, w3, hr3, ⟨_, _, rfl⟩, fun oa c e => ?_, ?_⟩
 ·cases e
  refine ⟨g3, ?_, hM3.congr fun j _ => by unfold catK; simp⟩
  rcases h3 with ⟨-, ⟨rfl, -⟩ | rfl⟩ | ⟨rfl, -⟩ <;> exact hB
 ·rcases h3 with ⟨h3, -⟩ | ⟨rfl, cs, cs', hg, -⟩
  ·exact h3
  ·exact absurd (lt_of_objAt hg) (Nat.lt_irrefl _)
def nine9 : Nat → Int := fun i => if i = 0 then 9 else 0
theorem one_key9 (w : World) : (oneKeyNext (.int .u8 9)).run Tryz.prog w = .ok (.value (.agg (ints .u8 32 nine9))) w := by kernel_rfl
theorem build0r (W : World) : (Instr.buildSlice 27 0 #[]).run Tryz.prog W = .ok (.slice (some ⟨W.heap.size, 0, none⟩) 0 0) (W.alloc (.cells #[] 31)) := by kernel_rfl
theorem keys12C_any (oa : Option Addr) (n c : Nat) (F : Nat → Nat → Int) (w : World) (hn : n ≤ 1000) (hK : K32At w oa n F) :
  Calls Tryz.prog 7 #[.slice oa n c] w fun e w' => ∃ oa2 c2, e = .returned (.slice oa2 n c2) ∧ n ≤ c2 ∧ K32At w' oa2 n F ∧ (∀ ad, oa2 = some ad → w.heap.size ≤ ad.block) ∧ Below w.heap.size w w' := by
 have HK : Hid (K32At w oa n F) := hK
 clear hK
 go_enter Tryz.func7, Tryz.ntmps7
 go_wp2_with fail
 go_loopw [8, 3, 5] (fun i v _ wr => ∃ (j : Nat) (v0 : Value), v0 = v ∧ j ≤ n ∧ i = .int .i64 j ∧ Below w.heap.size w wr ∧ Hid (wr.ownsRow w.heap.size 31 32 v0 j (k32L F j))) (fun i _ _ _ => n - (intOf i).toNat)
 case atStart => exact ⟨0, _, rfl, by omega, rfl, Grew.refl _, World.ownsRow_nil _ _ _ _⟩
 case round =>
  obtain ⟨j, v0, rfl, hj, rfl, hM, OWN⟩ := hrel
  by_cases hlt : j < n
  ·obtain ⟨ad, rfl⟩ := HK.out.addr (by omega)
   have l1 := HK.out.loadK hlt hM
   have hi1 : (j : Int) < (n : Int) := by omega
   have hi0 : (0 : Int) ≤ (j : Int) := by omega
   have hsz := hM.size
   obtain ⟨g3, c3, w3, hr3, own3, hb3, -⟩ := append_row w ((wr.alloc (.cells (ints .u8 32 (F j)) 32)).alloc (.cells (ints .u8 32 (F j)) 31)) w.heap.size _ j F (wr.alloc (.cells (ints .u8 32 (F j)) 32)).heap.size _ _ (World.ownsRow.alloc (World.ownsRow.alloc OWN.out _) _) (by omega) (objAt_alloc_at _ _ _ rfl) (Grew.alloc (Grew.alloc hM _) _) (Nat.le_refl _) (by simp; omega)
   have OWN3 : Hid (w3.ownsRow w.heap.size 31 32 (.slice (some ⟨g3, 0, none⟩) (j + 1) c3) (j + 1) (k32L F (j + 1))) := own3
   have hx : (wr.alloc (.cells (ints .u8 32 (F j)) 32)).heap.size = wr.heap.size + 1 := by simp
   rw [hx] at hr3
   clear own3 OWN
   go_wp2
   go_roundw
   case rel => exact ⟨j + 1, _, rfl, by omega, by go_num, hb3, OWN3⟩
   case measure => (simp [intOf] <;> omega)
  ·obtain rfl : j = n := by omega
   obtain ⟨oa2, c2, rfl, hc2, hK2⟩ := k32_of_own OWN.out
   have HK2 : Hid (K32At wr oa2 j F) := hK2
   have HB2 : Hid (∀ ad, oa2 = some ad → w.heap.size ≤ ad.block) := k32_own_blk OWN.out rfl
   have HC2 : Hid (j ≤ c2) := hc2
   clear OWN hK2 hc2
   go_wp2
   go_ret
   exact ⟨oa2, c2, rfl, HC2.out, HK2, HB2.out, hM⟩
theorem same24_any (oa ob : Option Addr) (n c d : Nat) (F : Nat → Nat → Int) (w : World) (hn : n ≤ 1000000) (hA : K32At w oa n F) (hB : K32At w ob n F) :
  Calls Tryz.prog 12 #[.slice oa n c, .slice ob n d] w fun e w' => e = .returned (.bool true) ∧ Below w.heap.size w w' := by
 have HA : Hid (K32At w oa n F) := hA
 have HB : Hid (K32At w ob n F) := hB
 clear hA hB
 go_enter Tryz.func12, Tryz.ntmps12
 go_wp2_with fail
 go_loopw [14, 5, 6] (fun i _ _ wr => ∃ j : Nat, j ≤ n ∧ i = .int .i64 j ∧ Below w.heap.size w wr) (fun i _ _ _ => n - (intOf i).toNat)
 case atStart => exact ⟨0, by omega, rfl, Grew.refl _⟩
 case round =>
  obtain ⟨j, hj, rfl, hM⟩ := hrel
  by_cases hlt : j < n
  ·obtain ⟨ad, rfl⟩ := HA.out.addr (by omega)
   obtain ⟨bd, rfl⟩ := HB.out.addr (by omega)
   have l1 := HA.out.loadK hlt hM
   have l2 := fun q : More => HB.out.loadB hlt (Grew.more (Grew.alloc hM (.cells (ints .u8 32 (F j)) 32)) q)
   have hsm := same_refl 32 (F j)
   have hi1 : (j : Int) < (n : Int) := by omega
   have hi0 : (0 : Int) ≤ (j : Int) := by omega
   have hM1 : Below w.heap.size w (wr.alloc (.cells (ints .u8 32 (F j)) 32)) := Grew.alloc hM _
   go_wp2_with fail
   have fv : objAt (wr.alloc (.cells (ints .u8 32 (F j)) 32)) wr.heap.size = some (.cells (ints .u8 32 (F j)) 32) := objAt_alloc_at _ _ _ rfl
   clear l1 hM
   generalize wr.alloc (.cells (ints .u8 32 (F j)) 32) = w4 at *
   generalize wr.heap.size = gv at *
   have lfv := lt_of_objAt fv
   ((first | (with_reducible refine wp_region_on (by kernel_rfl) (by kernel_rfl) ?_) | refine wp_region_more (by kernel_rfl) (by kernel_rfl) ?_); (repeat (first | go_big_quiet_skip | (go_big_quiet_want; go_big_quiet_op; first | go_big_quiet_on | (apply Exists.intro; refine ⟨fun _ => ?_, ?_⟩; (focus (fail)); go_big_quiet_on)))); refine wpQuiet_nil ?_; rintro _ ⟨mq, rfl⟩)
   have hM2 : Below w.heap.size w (more w4 mq) := Grew.more hM1 mq
   clear l2
   generalize more w4 mq = w5 at *
   go_wp2
   go_roundw
   case rel => first | exact ⟨j + 1, by omega, by go_num, hM2⟩ | ((repeat' apply Exists.intro) <;> first | exact ⟨⟨j + 1, by omega, by go_num, hM2⟩, rfl⟩ | exact undef)
   case measure => (simp [intOf] <;> omega)
  ·obtain rfl : j = n := by omega
   go_wp2
   go_ret
   exact ⟨rfl, hM⟩
theorem drawPlays_any (aw : ∀ (w : World), Tabs w → EtAt w → Calls Tryz.prog 5 #[] w fun e w' => e = .returned (.bool true) ∧ Below w.heap.size w w') (oa : Option Addr) (n c : Nat) (F : Nat → Nat → Int) (ob : Option Addr) (m c2 : Nat) (D Z : Nat → Int) (OA : Nat → Option Addr) (N C : Nat → Nat) (K : Nat → Nat → Nat → Int) (w : World) (hK : K32At w oa n F) (hA : DActs w ob m D Z OA N C K) (hT : Tabs w) (hE : EtAt w) :
  Calls Tryz.prog 3 #[.slice oa n c, .slice ob m c2] w fun e w' => e = .returned (.bool true) ∧ Below w.heap.size w w' := by
 have HE : Hid (EtAt w) := hE
 have HA : Hid (DActs w ob m D Z OA N C K) := hA
 have HK : Hid (K32At w oa n F) := hK
 clear hA hK
 go_enter Tryz.func3, Tryz.ntmps3
 go_wp2_with fail
 refine (aw _ hT hE).mono ?_
 rintro e w1 ⟨rfl, hG⟩
 clear hT hE aw
 by_cases hbig : (60 : Int) < (n : Int)
 ·go_wp2
  go_ret
  exact ⟨rfl, hG⟩
 by_cases hm60 : (60 : Int) < (m : Int)
 ·go_wp2
  go_ret
  exact ⟨rfl, hG⟩
 go_wp2_with fail
 refine (dnew_any oa n c F w1 (by omega) (HK.out.later hG)).mono ?_
 rintro e w2 ⟨b, g, rfl, hb0, hg0, hgs, hS, hb⟩
 have HS : Hid (SrcAt w2 b g n F) := hS
 have hbs := hS.lt
 have hz1 := hG.size
 replace hG := Grew.trans hG hb
 replace hb0 : w.heap.size ≤ b := by omega
 replace hg0 : w.heap.size ≤ g := by omega
 clear hS hb hz1
 go_wp2_with fail
 refine (keys12C_any oa n c F w2 (by omega) (HK.out.later hG)).mono ?_
 rintro e w3 ⟨od, dc, rfl, hqc, hD, hd0, hb⟩
 replace HS : Hid (SrcAt w3 b g n F) := HS.out.later hb
 have HD : Hid (K32At w3 od n F) := hD
 have HB : Hid (0 < n → ∀ ad, od = some ad → ad.block ≠ b ∧ ad.block ≠ g) := fun _ ad e => by
  have := hd0 ad e
  omega
 replace hG := Grew.trans hG hb
 replace hgs : g < w3.heap.size := Nat.lt_of_lt_of_le hgs hb.size
 clear hd0 hD hb hbs
 go_wp2_with fail
 go_loopw [36, 5, 6] (fun i s d wr => ∃ (k b g q : Nat) (L : Nat → Nat → Int) (od : Option Addr) (dc : Nat), k ≤ m ∧ i = .int .i64 k ∧ s = .pointer (some ⟨b, 0, none⟩) ∧ d = .slice od q dc ∧ q ≤ 60 + 61 * k ∧ q ≤ dc ∧ w.heap.size ≤ b ∧ w.heap.size ≤ g ∧ g < wr.heap.size ∧ Below w.heap.size w wr ∧ Hid (SrcAt wr b g q L) ∧ Hid (K32At wr od q L) ∧ Hid (0 < q → ∀ ad, od = some ad → ad.block ≠ b ∧ ad.block ≠ g)) (fun i _ _ _ => m - (intOf i).toNat)
 case atStart => exact ⟨0, b, g, n, F, od, dc, by omega, rfl, rfl, rfl, by omega, hqc, hb0, hg0, hgs, hG, HS, HD, HB⟩
 case round =>
  clear hb0 hg0 hgs hG HS HD HB hqc HK hbig
  obtain ⟨k, b, g, q, L, od, dc, hk, rfl, rfl, rfl, hq, hqc, hb0, hg0, hgs, hG, HS, HD, HB⟩ := hrel
  by_cases hlt : k < m
  ·obtain ⟨ad, rfl⟩ := HA.out.addr (by omega)
   obtain ⟨⟨⟨hd0, hd1⟩, hz0, hz1⟩, hKk, hl⟩ := HA.out.one hlt
   have HKk : Hid (K32At w (OA k) (N k) (K k)) := hKk
   replace hl := hl wr hG
   have hi1 : (k : Int) < (m : Int) := by omega
   have hi0 : (0 : Int) ≤ (k : Int) := by omega
   clear hKk
   generalize D k = dk at *
   generalize Z k = zk at *
   generalize OA k = oak at *
   generalize N k = nk at *
   generalize C k = ck at *
   generalize K k = Kk at *
   have fa : objAt (wr.alloc (.cells #[.int .u8 dk, .int .i64 zk, .slice oak nk ck] 30)) wr.heap.size = some (.cells #[.int .u8 dk, .int .i64 zk, .slice oak nk ck] 30) := objAt_alloc_at _ _ _ rfl
   have HS1 : Hid (SrcAt (wr.alloc (.cells #[.int .u8 dk, .int .i64 zk, .slice oak nk ck] 30)) b g q L) := HS.out.later (Grew.alloc (Grew.refl _) _)
   have HD1 : Hid (K32At (wr.alloc (.cells #[.int .u8 dk, .int .i64 zk, .slice oak nk ck] 30)) od q L) := HD.out.later (Grew.alloc (Grew.refl _) _)
   have hG1 := Grew.alloc hG (.cells #[.int .u8 dk, .int .i64 zk, .slice oak nk ck] 30)
   have hbs := HS.out.lt
   have hab : wr.heap.size ≠ b := by omega
   have hag : wr.heap.size ≠ g := by omega
   have hgs1 : g < (wr.alloc (.cells #[.int .u8 dk, .int .i64 zk, .slice oak nk ck] 30)).heap.size := by simp; omega
   have hbs1 : b < (wr.alloc (.cells #[.int .u8 dk, .int .i64 zk, .slice oak nk ck] 30)).heap.size := by simp; omega
   have hq4 : dk.tmod 4 = 0 ∨ dk.tmod 4 = 1 ∨ dk.tmod 4 = 2 ∨ dk.tmod 4 = 3 := by
    rw [Int.tmod_eq_emod_of_nonneg hd0]
    omega
   clear hgs hbs
   refine or_fourD hq4 ?ga ?gb ?gc ?gd
   all_goals
    intro hq4x
    clear hq4
   case' ga =>
    go_wp2_with fail
    clear hl HS HD hG
    replace HS := HS1
    replace HD := HD1
    replace hG := hG1
    clear HS1 HD1 hG1
    generalize wr.alloc (.cells #[.int .u8 dk, .int .i64 zk, .slice oak nk ck] 30) = w2 at *
    generalize wr.heap.size = ga at *
    have lfa := lt_of_objAt fa
    rcases Nat.eq_zero_or_pos q with rfl | hq0
    ·skip
     refine (dnext_none HS.out).mono ?_
     rintro e w3 ⟨u, rfl, hu, hb⟩
     have HU := hidD hu
     clear hu
     replace HS := hidD (HS.out.later hb)
     replace HD := hidD (HD.out.later hb)
     replace fa := keep_below hb fa
     replace hG := Grew.trans hG hb
     replace hgs1 := Nat.lt_of_lt_of_le hgs1 hb.size
     replace hbs1 := Nat.lt_of_lt_of_le hbs1 hb.size
     clear hb lfa
     have lfa := lt_of_objAt fa
     go_wp2_with fail
     have fk : objAt (w3.alloc (.cells (ints .u8 32 (nought)) 32)) w3.heap.size = some (.cells (ints .u8 32 (nought)) 32) := objAt_alloc_at _ _ _ rfl
     have hb : Below w3.heap.size w3 (w3.alloc (.cells (ints .u8 32 (nought)) 32)) := Grew.alloc (Grew.refl _) _
     replace HU := hidD (HU.out.later hb)
     replace HS := hidD (HS.out.later hb)
     replace HD := hidD (HD.out.later hb)
     replace fa := keep_below hb fa
     replace hG := Grew.trans hG hb
     replace hgs1 := Nat.lt_of_lt_of_le hgs1 hb.size
     replace hbs1 := Nat.lt_of_lt_of_le hbs1 hb.size
     clear hb lfa
     have lfa := lt_of_objAt fa
     generalize w3.alloc (.cells (ints .u8 32 (nought)) 32) = w4 at *
     generalize w3.heap.size = gk at *
     refine (rsome_big 0 dc 1 od _ (by decide)).mono ?_
     rintro e w5 ⟨rfl, rfl⟩
     have cc := fun (W : World) (hb : Below w5.heap.size w5 W) => code_st u (HE.out.later (Grew.trans hG hb)) (HU.out.later hb)
     have hsm := same_refl 32 nought
     have lfk := lt_of_objAt fk
     go_wp2_with fail
     (refine wp_rel (by kernel_rfl) (by kernel_rfl) ?_; (repeat (first | refine exv_skip rfl ?_ | (refine exv_call rfl ?_; apply Exists.intro))); refine exv_nil ?_; intro γ hinj hbase; (repeat (first | (refine rel_quiet rfl ?_; ((first | go_big_quiet_skip | (go_big_quiet_want; go_big_quiet_op; go_big_quiet_on)); refine wpQuiet_nil ?_)) | ((first | refine rel_skip_some rfl (fun _ => rfl) ?_ | ((try simp only [Nat.zero_add, Nat.reduceAdd]); apply rel_box alloc_cls; (focus rfl); (focus (first | exact cells_agg _ | exact cells_int _ _ | exact cells_bool _ | rfl)); (focus (exact by_fits))) | ((try simp only [Nat.zero_add, Nat.reduceAdd]); apply rel_alloc _ _ alloc_cls; (focus rfl); (focus (intro W; (first | exact zero_key _ | exact zero_elem _ | exact zero_num _ | exact zero_pair _ | exact zero_rnode _ | exact zero_kpair _))); (focus (first | exact cells_ints _ _ _ | exact cells_two _ _ | rfl)); (focus (exact by_fits))) | ((try simp only [Nat.zero_add, Nat.reduceAdd]); apply rel_slice alloc_cls; (focus rfl); (focus (intro W; simp only [List.map_toArray, List.map_cons, List.map_nil]; first | fail)); (focus (exact by_fits))) | (apply rel_fact; (focus rfl); (focus rfl); (focus rfl); (focus (intro W hC hF; (have hbW : Below w5.heap.size w5 W := by obtain ⟨mm, rfl⟩ := hC; exact below_more w5 mm); go_big_quiet_want; go_big_quiet_op; (first | go_big_quiet_on | (apply Exists.intro; refine ⟨fun _ => ?_, ?_⟩; (focus ((with_reducible exact Calls.of_more (cc _ (Grew.more hbW _))))); go_big_quiet_on)); exact wpQuiet_nil rfl)); (focus (first | exact fun _ => ⟨rfl, rfl⟩ | exact fun h => absurd h (by decide))))); ((first | go_big_quiet_skip | (go_big_quiet_want; go_big_quiet_op; go_big_quiet_on)); refine wpQuiet_nil ?_)) | refine rel_skip_none rfl (fun _ => rfl) ?_ | ((try simp only [Nat.zero_add, Nat.reduceAdd]); apply rel_store (setRow_cls (hbase _)); (focus rfl); (focus rfl); (focus rfl); (focus (first | exact cells_agg _ | exact cells_int _ _ | exact cells_bool _ | rfl)); rotate_left 3; (focus (exact by_mem)); rotate_right 3; (focus kernel_rfl); (focus (first | exact ints_size _ _ _ | rfl)); (focus (first | exact ints_ones _ _ _ | exact ones_two _ _ _ _ | kernel_rfl)); (focus (decide +kernel)); (focus (exact by_fits))))))
     (refine rel_nil ?_; rintro _ ⟨mq, rfl⟩ -)
     have hb := below_more w5 mq
     replace HS := hidD (HS.out.later hb)
     replace HD := hidD (HD.out.later hb)
     replace fa := keep_below hb fa
     replace hG := Grew.trans hG hb
     replace hgs1 := Nat.lt_of_lt_of_le hgs1 hb.size
     replace hbs1 := Nat.lt_of_lt_of_le hbs1 hb.size
     clear hb lfa
     have lfa := lt_of_objAt fa
     clear cc lfk fk hsm hinj hbase
     generalize more w5 mq = w7 at *
     clear γ
     go_wp2_with fail
     refine (dleft_any HS.out).mono ?_
     rintro e w6 ⟨rfl, rfl⟩
     go_wp2
     go_roundw
     case rel => first | exact ⟨k + 1, b, g, 0, L, od, dc, by omega, by go_num, rfl, rfl, by omega, by omega, hb0, hg0, hgs1, hG, HS, HD, HB⟩ | ((repeat' apply Exists.intro) <;> first | exact ⟨⟨k + 1, b, g, 0, L, od, dc, by omega, by go_num, rfl, rfl, by omega, by omega, hb0, hg0, hgs1, hG, HS, HD, HB⟩, rfl⟩ | exact undef)
     case measure => (simp [intOf]; omega)
    ·skip
     refine (dnext_ok HS.out hq0 (by omega)).mono ?_
     rintro e w3 ⟨rfl, hS, hk9⟩
     replace HS := hidD hS
     replace HD := hidD (hk9.kss HD.out HB.out)
     replace fa := hk9.obj fa hab hag
     replace hG := hk9.below hG hb0 hg0
     replace hgs1 := Nat.lt_of_lt_of_le hgs1 hk9.size
     replace hbs1 := Nat.lt_of_lt_of_le hbs1 hk9.size
     clear hS hk9 lfa
     have lfa := lt_of_objAt fa
     go_wp2_with fail
     have fk : objAt (w3.alloc (.cells (ints .u8 32 (L 0)) 32)) w3.heap.size = some (.cells (ints .u8 32 (L 0)) 32) := objAt_alloc_at _ _ _ rfl
     have hb : Below w3.heap.size w3 (w3.alloc (.cells (ints .u8 32 (L 0)) 32)) := Grew.alloc (Grew.refl _) _
     replace HS := hidD (HS.out.later hb)
     replace HD := hidD (HD.out.later hb)
     replace fa := keep_below hb fa
     replace hG := Grew.trans hG hb
     replace hgs1 := Nat.lt_of_lt_of_le hgs1 hb.size
     replace hbs1 := Nat.lt_of_lt_of_le hbs1 hb.size
     clear hb lfa
     have lfa := lt_of_objAt fa
     generalize w3.alloc (.cells (ints .u8 32 (L 0)) 32) = w4 at *
     generalize w3.heap.size = gk at *
     refine (rsome_ok (z := 1) HD.out hq0 hqc).mono ?_
     rintro e w5 ⟨rfl, hb⟩
     replace fk := keep_below hb fk
     replace HS := hidD (HS.out.later hb)
     replace HD := hidD (HD.out.later hb)
     replace fa := keep_below hb fa
     replace hG := Grew.trans hG hb
     replace hgs1 := Nat.lt_of_lt_of_le hgs1 hb.size
     replace hbs1 := Nat.lt_of_lt_of_le hbs1 hb.size
     clear hb lfa
     have lfa := lt_of_objAt fa
     have HD1 := hidD (HD.out.rest hq0 hqc)
     have HB1 : Hid (0 < q - 1 → ∀ ad, offK od dc 1 = some ad → ad.block ≠ b ∧ ad.block ≠ g) := fun h ad e => by
      obtain ⟨a0, e0, e1⟩ := offK_block e
      rw [e1]
      exact HB.out hq0 a0 e0
     obtain ⟨ad, rfl⟩ := HD.out.addr hq0
     have l2 := fun q9 : More => HD.out.loadB hq0 (Grew.more (Grew.refl w5) q9)
     rw [Nat.zero_mul, addK_none] at l2
     have cc := fun (W : World) (hb : Below w5.heap.size w5 W) => code_st .nilIface (HE.out.later (Grew.trans hG hb)) (.inl ⟨rfl, rfl⟩)
     have hsm := same_refl 32 (L 0)
     have lfk := lt_of_objAt fk
     generalize offK (some ad) dc 1 = o1 at *
     replace HD := HD1
     replace HB := HB1
     clear HD1 HB1
     go_wp2_with fail
     (refine wp_rel (by kernel_rfl) (by kernel_rfl) ?_; (repeat (first | refine exv_skip rfl ?_ | (refine exv_call rfl ?_; apply Exists.intro))); refine exv_nil ?_; intro γ hinj hbase; (repeat (first | (refine rel_quiet rfl ?_; ((first | go_big_quiet_skip | (go_big_quiet_want; go_big_quiet_op; go_big_quiet_on)); refine wpQuiet_nil ?_)) | ((first | refine rel_skip_some rfl (fun _ => rfl) ?_ | ((try simp only [Nat.zero_add, Nat.reduceAdd]); apply rel_box alloc_cls; (focus rfl); (focus (first | exact cells_agg _ | exact cells_int _ _ | exact cells_bool _ | rfl)); (focus (exact by_fits))) | ((try simp only [Nat.zero_add, Nat.reduceAdd]); apply rel_alloc _ _ alloc_cls; (focus rfl); (focus (intro W; (first | exact zero_key _ | exact zero_elem _ | exact zero_num _ | exact zero_pair _ | exact zero_rnode _ | exact zero_kpair _))); (focus (first | exact cells_ints _ _ _ | exact cells_two _ _ | rfl)); (focus (exact by_fits))) | ((try simp only [Nat.zero_add, Nat.reduceAdd]); apply rel_slice alloc_cls; (focus rfl); (focus (intro W; simp only [List.map_toArray, List.map_cons, List.map_nil]; first | fail)); (focus (exact by_fits))) | (apply rel_fact; (focus rfl); (focus rfl); (focus rfl); (focus (intro W hC hF; (have hbW : Below w5.heap.size w5 W := by obtain ⟨mm, rfl⟩ := hC; exact below_more w5 mm); go_big_quiet_want; go_big_quiet_op; (first | go_big_quiet_on | (apply Exists.intro; refine ⟨fun _ => ?_, ?_⟩; (focus ((with_reducible exact Calls.of_more (cc _ (Grew.more hbW _))))); go_big_quiet_on)); exact wpQuiet_nil rfl)); (focus (first | exact fun _ => ⟨rfl, rfl⟩ | exact fun h => absurd h (by decide))))); ((first | go_big_quiet_skip | (go_big_quiet_want; go_big_quiet_op; go_big_quiet_on)); refine wpQuiet_nil ?_)) | refine rel_skip_none rfl (fun _ => rfl) ?_ | ((try simp only [Nat.zero_add, Nat.reduceAdd]); apply rel_store (setRow_cls (hbase _)); (focus rfl); (focus rfl); (focus rfl); (focus (first | exact cells_agg _ | exact cells_int _ _ | exact cells_bool _ | rfl)); rotate_left 3; (focus (exact by_mem)); rotate_right 3; (focus kernel_rfl); (focus (first | exact ints_size _ _ _ | rfl)); (focus (first | exact ints_ones _ _ _ | exact ones_two _ _ _ _ | kernel_rfl)); (focus (decide +kernel)); (focus (exact by_fits))))))
     (refine rel_nil ?_; rintro _ ⟨mq, rfl⟩ -)
     have hb := below_more w5 mq
     replace HS := hidD (HS.out.later hb)
     replace HD := hidD (HD.out.later hb)
     replace fa := keep_below hb fa
     replace hG := Grew.trans hG hb
     replace hgs1 := Nat.lt_of_lt_of_le hgs1 hb.size
     replace hbs1 := Nat.lt_of_lt_of_le hbs1 hb.size
     clear hb lfa
     have lfa := lt_of_objAt fa
     clear l2 cc lfk fk hsm hinj hbase
     generalize more w5 mq = w7 at *
     clear γ
     go_wp2_with fail
     refine (dleft_any HS.out).mono ?_
     rintro e w6 ⟨rfl, rfl⟩
     go_wp2
     go_roundw
     case rel => first | exact ⟨k + 1, b, g, q - 1, (fun j => L (1 + j)), o1, dc - 1, by omega, by go_num, rfl, rfl, by omega, by omega, hb0, hg0, hgs1, hG, HS, HD, HB⟩ | ((repeat' apply Exists.intro) <;> first | exact ⟨⟨k + 1, b, g, q - 1, (fun j => L (1 + j)), o1, dc - 1, by omega, by go_num, rfl, rfl, by omega, by omega, hb0, hg0, hgs1, hG, HS, HD, HB⟩, rfl⟩ | exact undef)
     case measure => (simp [intOf]; omega)
   case' gb =>
    go_wp2_with fail
    clear hl HS HD hG
    replace HS := HS1
    replace HD := HD1
    replace hG := hG1
    clear HS1 HD1 hG1
    generalize wr.alloc (.cells #[.int .u8 dk, .int .i64 zk, .slice oak nk ck] 30) = w2 at *
    generalize wr.heap.size = ga at *
    have lfa := lt_of_objAt fa
    rcases (by omega : zk < 0 ∨ (q : Int) < zk ∨ (0 ≤ zk ∧ zk ≤ (q : Int))) with hzk | hzk | ⟨hzk, hzq⟩
    ·skip
     refine (dsome_neg HS.out hzk).mono ?_
     rintro e w3 ⟨u, rfl, hu, hb⟩
     have HU := hidD hu
     clear hu
     replace HS := hidD (HS.out.later hb)
     replace HD := hidD (HD.out.later hb)
     replace fa := keep_below hb fa
     replace hG := Grew.trans hG hb
     replace hgs1 := Nat.lt_of_lt_of_le hgs1 hb.size
     replace hbs1 := Nat.lt_of_lt_of_le hbs1 hb.size
     clear hb lfa
     have lfa := lt_of_objAt fa
     obtain ⟨t, x, rfl, -⟩ := HU.out.up (by decide)
     go_wp2_with fail
     refine (rsome_neg q dc zk od _ hzk).mono ?_
     rintro e w5 ⟨rfl, rfl⟩
     have cc := fun (W : World) (hb : Below w5.heap.size w5 W) => code_st (.iface t x) (HE.out.later (Grew.trans hG hb)) (HU.out.later hb)
     have cs := fun (W : World) => same24_any none none 0 0 0 L W (by decide) (.inl rfl) (.inl rfl)
     go_wp2_with fail
     refine (cc _ (Grew.refl _)).mono ?_
     rintro e w6 ⟨rfl, hb⟩
     replace HS := hidD (HS.out.later hb)
     replace HD := hidD (HD.out.later hb)
     replace fa := keep_below hb fa
     replace hG := Grew.trans hG hb
     replace hgs1 := Nat.lt_of_lt_of_le hgs1 hb.size
     replace hbs1 := Nat.lt_of_lt_of_le hbs1 hb.size
     clear hb lfa
     have lfa := lt_of_objAt fa
     clear cc
     go_wp2_with fail
     refine (cs _).mono ?_
     rintro e w7 ⟨rfl, hb⟩
     replace HS := hidD (HS.out.later hb)
     replace HD := hidD (HD.out.later hb)
     replace fa := keep_below hb fa
     replace hG := Grew.trans hG hb
     replace hgs1 := Nat.lt_of_lt_of_le hgs1 hb.size
     replace hbs1 := Nat.lt_of_lt_of_le hbs1 hb.size
     clear hb lfa
     have lfa := lt_of_objAt fa
     clear cs
     go_wp2_with fail
     refine (dleft_any HS.out).mono ?_
     rintro e w6 ⟨rfl, rfl⟩
     go_wp2
     go_roundw
     case rel => first | exact ⟨k + 1, b, g, q, L, od, dc, by omega, by go_num, rfl, rfl, by omega, by omega, hb0, hg0, hgs1, hG, HS, HD, HB⟩ | ((repeat' apply Exists.intro) <;> first | exact ⟨⟨k + 1, b, g, q, L, od, dc, by omega, by go_num, rfl, rfl, by omega, by omega, hb0, hg0, hgs1, hG, HS, HD, HB⟩, rfl⟩ | exact undef)
     case measure => (simp [intOf]; omega)
    ·skip
     refine (dsome_big HS.out hzk).mono ?_
     rintro e w3 ⟨u, rfl, hu, hb⟩
     have HU := hidD hu
     clear hu
     replace HS := hidD (HS.out.later hb)
     replace HD := hidD (HD.out.later hb)
     replace fa := keep_below hb fa
     replace hG := Grew.trans hG hb
     replace hgs1 := Nat.lt_of_lt_of_le hgs1 hb.size
     replace hbs1 := Nat.lt_of_lt_of_le hbs1 hb.size
     clear hb lfa
     have lfa := lt_of_objAt fa
     obtain ⟨t, x, rfl, -⟩ := HU.out.up (by decide)
     go_wp2_with fail
     refine (rsome_big q dc zk od _ hzk).mono ?_
     rintro e w5 ⟨rfl, rfl⟩
     have cc := fun (W : World) (hb : Below w5.heap.size w5 W) => code_st (.iface t x) (HE.out.later (Grew.trans hG hb)) (HU.out.later hb)
     have cs := fun (W : World) => same24_any none none 0 0 0 L W (by decide) (.inl rfl) (.inl rfl)
     go_wp2_with fail
     refine (cc _ (Grew.refl _)).mono ?_
     rintro e w6 ⟨rfl, hb⟩
     replace HS := hidD (HS.out.later hb)
     replace HD := hidD (HD.out.later hb)
     replace fa := keep_below hb fa
     replace hG := Grew.trans hG hb
     replace hgs1 := Nat.lt_of_lt_of_le hgs1 hb.size
     replace hbs1 := Nat.lt_of_lt_of_le hbs1 hb.size
     clear hb lfa
     have lfa := lt_of_objAt fa
     clear cc
     go_wp2_with fail
     refine (cs _).mono ?_
     rintro e w7 ⟨rfl, hb⟩
     replace HS := hidD (HS.out.later hb)
     replace HD := hidD (HD.out.later hb)
     replace fa := keep_below hb fa
     replace hG := Grew.trans hG hb
     replace hgs1 := Nat.lt_of_lt_of_le hgs1 hb.size
     replace hbs1 := Nat.lt_of_lt_of_le hbs1 hb.size
     clear hb lfa
     have lfa := lt_of_objAt fa
     clear cs
     go_wp2_with fail
     refine (dleft_any HS.out).mono ?_
     rintro e w6 ⟨rfl, rfl⟩
     go_wp2
     go_roundw
     case rel => first | exact ⟨k + 1, b, g, q, L, od, dc, by omega, by go_num, rfl, rfl, by omega, by omega, hb0, hg0, hgs1, hG, HS, HD, HB⟩ | ((repeat' apply Exists.intro) <;> first | exact ⟨⟨k + 1, b, g, q, L, od, dc, by omega, by go_num, rfl, rfl, by omega, by omega, hb0, hg0, hgs1, hG, HS, HD, HB⟩, rfl⟩ | exact undef)
     case measure => (simp [intOf]; omega)
    ·skip
     obtain ⟨z, rfl⟩ : ∃ z : Nat, zk = (z : Int) := ⟨zk.toNat, by omega⟩
     have hzq : z ≤ q := by omega
     refine (dsome_ok HS.out hzq (by omega)).mono ?_
     rintro e w3 ⟨o1, c1, rfl, hK1, hS, hk9⟩
     have HK1 := hidD hK1
     clear hK1
     replace HS := hidD hS
     replace HD := hidD (hk9.kss HD.out HB.out)
     replace fa := hk9.obj fa hab hag
     replace hG := hk9.below hG hb0 hg0
     replace hgs1 := Nat.lt_of_lt_of_le hgs1 hk9.size
     replace hbs1 := Nat.lt_of_lt_of_le hbs1 hk9.size
     clear hS hk9 lfa
     have lfa := lt_of_objAt fa
     go_wp2_with fail
     refine (rsome_ok HD.out hzq hqc).mono ?_
     rintro e w5 ⟨rfl, hb⟩
     replace HK1 := hidD (HK1.out.later hb)
     replace HS := hidD (HS.out.later hb)
     replace HD := hidD (HD.out.later hb)
     replace fa := keep_below hb fa
     replace hG := Grew.trans hG hb
     replace hgs1 := Nat.lt_of_lt_of_le hgs1 hb.size
     replace hbs1 := Nat.lt_of_lt_of_le hbs1 hb.size
     clear hb lfa
     have lfa := lt_of_objAt fa
     have HD1 := hidD (HD.out.rest hzq hqc)
     have HD2 := hidD (HD.out.less hzq)
     have HB1 : Hid (0 < q - z → ∀ ad, offK od dc z = some ad → ad.block ≠ b ∧ ad.block ≠ g) := fun h ad e => by
      obtain ⟨a0, e0, e1⟩ := offK_block e
      rw [e1]
      exact HB.out (by omega) a0 e0
     have cc := fun (W : World) (hb : Below w5.heap.size w5 W) => code_st .nilIface (HE.out.later (Grew.trans hG hb)) (.inl ⟨rfl, rfl⟩)
     have cs := fun (W : World) (hb : Below w5.heap.size w5 W) => same24_any o1 od z c1 dc L W (by omega) (HK1.out.later hb) (HD2.out.later hb)
     generalize offK od dc z = o2 at *
     replace HD := HD1
     replace HB := HB1
     clear HD1 HB1
     go_wp2_with fail
     refine (cc _ (Grew.refl _)).mono ?_
     rintro e w6 ⟨rfl, hb⟩
     have hb6 := hb
     replace HS := hidD (HS.out.later hb)
     replace HD := hidD (HD.out.later hb)
     replace fa := keep_below hb fa
     replace hG := Grew.trans hG hb
     replace hgs1 := Nat.lt_of_lt_of_le hgs1 hb.size
     replace hbs1 := Nat.lt_of_lt_of_le hbs1 hb.size
     clear hb lfa
     have lfa := lt_of_objAt fa
     clear cc
     go_wp2_with fail
     refine (cs _ hb6).mono ?_
     rintro e w7 ⟨rfl, hb⟩
     replace HS := hidD (HS.out.later hb)
     replace HD := hidD (HD.out.later hb)
     replace fa := keep_below hb fa
     replace hG := Grew.trans hG hb
     replace hgs1 := Nat.lt_of_lt_of_le hgs1 hb.size
     replace hbs1 := Nat.lt_of_lt_of_le hbs1 hb.size
     clear hb lfa
     have lfa := lt_of_objAt fa
     clear cs hb6
     go_wp2_with fail
     refine (dleft_any HS.out).mono ?_
     rintro e w6 ⟨rfl, rfl⟩
     go_wp2
     go_roundw
     case rel => first | exact ⟨k + 1, b, g, q - z, (fun j => L (z + j)), o2, dc - z, by omega, by go_num, rfl, rfl, by omega, by omega, hb0, hg0, hgs1, hG, HS, HD, HB⟩ | ((repeat' apply Exists.intro) <;> first | exact ⟨⟨k + 1, b, g, q - z, (fun j => L (z + j)), o2, dc - z, by omega, by go_num, rfl, rfl, by omega, by omega, hb0, hg0, hgs1, hG, HS, HD, HB⟩, rfl⟩ | exact undef)
     case measure => (simp [intOf]; omega)
   case' gc =>
    by_cases hnk : (60 : Int) < (nk : Int)
    ·go_wp2_with fail
     go_ret
     exact ⟨rfl, hG1⟩
    go_wp2_with fail
    clear hl HS HD hG
    replace HS := HS1
    replace HD := HD1
    replace hG := hG1
    clear HS1 HD1 hG1
    generalize wr.alloc (.cells #[.int .u8 dk, .int .i64 zk, .slice oak nk ck] 30) = w2 at *
    generalize wr.heap.size = ga at *
    have lfa := lt_of_objAt fa
    refine (dadd_any HS.out (HKk.out.later hG) (by omega)).mono ?_
    rintro e w5 ⟨rfl, g3, hg3, hS, hk9, hg4⟩
    have hgs9 := hg4 hgs1
    have hg5 : w.heap.size ≤ g3 := by
     have := hG.size
     rcases hg3 with rfl | h
     ·exact hg0
     ·omega
    replace HS := hidD hS
    replace HD := hidD (hk9.kss HD.out HB.out)
    replace fa := hk9.obj fa hab hag
    replace hG := hk9.below hG hb0 hg0
    replace hgs1 := Nat.lt_of_lt_of_le hgs1 hk9.size
    replace hbs1 := Nat.lt_of_lt_of_le hbs1 hk9.size
    clear hS hk9 lfa
    have lfa := lt_of_objAt fa
    replace hgs1 := hgs9
    clear hg3 hg4 hgs9
    have hbs5 := hbs1
    have hgs5 := hgs1
    have lfa5 := lfa
    have hz5 := hG.size
    have cK := fun (W : World) (hb : Below w5.heap.size w5 W) => keys12C_any oak nk ck Kk W (by omega) (HKk.out.later (Grew.trans hG hb))
    have cD := fun (W : World) (hb : Below w5.heap.size w5 W) => HD.out.later hb
    go_wp2_with fail
    refine wp_relTv (fun k => k == 2 || k == 5) (fun k => match k with | 2 => fun u => KSlD q u | 5 => fun u => KSlD nk u | _ => fun _ => True) (fun k => match k with | 2 => fun u w => MFa w5.heap.size q L u w | 5 => fun u w => KAt nk Kk u w | _ => fun _ _ => True) (fun k => match k with | 2 => .slice none q 0 | 5 => .slice none nk 0 | _ => undef) (fun i hi => ?_) 6 (by kernel_rfl) (by kernel_rfl) (by kernel_rfl) (by kernel_rfl) (by kernel_rfl) ?_
    ·simp only [Bool.or_eq_true, beq_iff_eq] at hi
     rcases hi with rfl | rfl
     ·exact ⟨none, 0, rfl⟩
     ·exact ⟨none, 0, rfl⟩
    simp only [List.take_succ_cons, List.take_zero]
    iterate 2 (first | refine exv_skip rfl ?_ | (refine exv_call rfl ?_; apply Exists.intro))
    refine exv_call rfl ⟨undef, ?_⟩
    iterate 2 (first | refine exv_skip rfl ?_ | (refine exv_call rfl ?_; apply Exists.intro))
    refine exv_call rfl ⟨undef, ?_⟩
    refine exv_nil ?_
    intro γ gv hsv hinj hbase
    obtain ⟨o2, c9, e1⟩ := hsv 2 rfl
    obtain ⟨o5, c5, e2⟩ := hsv 5 rfl
    (repeat (first | (refine rel_quiet rfl ?_; ((first | go_big_quiet_skip | (go_big_quiet_want; go_big_quiet_op; go_big_quiet_on)); refine wpQuiet_nil ?_)) | ((first | refine rel_skip_some rfl (fun _ => rfl) ?_ | ((try simp only [Nat.zero_add, Nat.reduceAdd]); apply rel_slice alloc_cls; (focus rfl); (focus (intro W; simp only [List.map_toArray, List.map_cons, List.map_nil]; first | (with_reducible exact build0r W) | exact build0r W)); (focus (exact by_fits))) | (apply rel_fact; (focus rfl); (focus rfl); (focus rfl); (focus (intro W hC hF; (skip); go_big_quiet_want; go_big_quiet_op; (first | go_big_quiet_on | (apply Exists.intro; refine ⟨fun _ => ?_, ?_⟩; (focus ((fail))); go_big_quiet_on)); exact wpQuiet_nil rfl)); (focus (first | exact fun _ => ⟨rfl, rfl⟩ | exact fun h => absurd h (by decide))))); ((first | go_big_quiet_skip | (go_big_quiet_want; go_big_quiet_op; go_big_quiet_on)); refine wpQuiet_nil ?_)) | refine rel_skip_none rfl (fun _ => rfl) ?_))
    refine rel_appv (.slice (some ⟨γ 0, 0, none⟩) 0 0) (.slice od q dc) rfl e1 rfl rfl rfl rfl (fits_one (stab_mfa _ _ _ _) (stab_full _ _ _) rfl rfl (fits_nil (stab_mfa _ _ _ _))) (by first | kernel_rfl | simp [go_sem]) (by first | kernel_rfl | simp [go_sem]) ?_ ?_
    ·intro W hC hF
     obtain ⟨mm, rfl⟩ := hC
     obtain ⟨u9, w9, q1, q2, q3, q4⟩ := app_cat (c := dc) (B := w5.heap.size) ⟨γ 0, 0, none⟩ (cD _ (below_more w5 mm)) (by omega) (below_more w5 mm).size
     exact ⟨u9, w9, q1 _, q2, q3, q4⟩
    ((first | go_big_quiet_skip | (go_big_quiet_want; go_big_quiet_op; go_big_quiet_on)); refine wpQuiet_nil ?_)
    (repeat (first | (refine rel_quiet rfl ?_; ((first | go_big_quiet_skip | (go_big_quiet_want; go_big_quiet_op; go_big_quiet_on)); refine wpQuiet_nil ?_)) | ((first | refine rel_skip_some rfl (fun _ => rfl) ?_ | (apply rel_fact; (focus rfl); (focus rfl); (focus rfl); (focus (intro W hC hF; (skip); go_big_quiet_want; go_big_quiet_op; (first | go_big_quiet_on | (apply Exists.intro; refine ⟨fun _ => ?_, ?_⟩; (focus ((fail))); go_big_quiet_on)); exact wpQuiet_nil rfl)); (focus (first | exact fun _ => ⟨rfl, rfl⟩ | exact fun h => absurd h (by decide))))); ((first | go_big_quiet_skip | (go_big_quiet_want; go_big_quiet_op; go_big_quiet_on)); refine wpQuiet_nil ?_)) | refine rel_skip_none rfl (fun _ => rfl) ?_))
    refine rel_callv #[.slice oak nk ck] (enters_of Tryz.func7 (by kernel_rfl) rfl) rfl e2 rfl rfl rfl rfl (fits_one (stab_kat _ _ _) (stab_mfa _ _ _ _) rfl rfl (fits_one (stab_kat _ _ _) (stab_full _ _ _) rfl rfl (fits_nil (stab_kat _ _ _)))) (by first | kernel_rfl | simp [go_sem]) ?_ ?_
    ·intro W hC hF
     obtain ⟨mm, rfl⟩ := hC
     refine (cK _ (below_more w5 mm)).mono ?_
     rintro e w9 ⟨ob9, cb9, rfl, hc9, hK9, hB9, hb9⟩
     exact ⟨_, rfl, ⟨_, _, rfl⟩, (fun oa2 c2 e2 => by cases e2; exact hK9), hb9⟩
    ((first | go_big_quiet_skip | (go_big_quiet_want; go_big_quiet_op; go_big_quiet_on)); refine wpQuiet_nil ?_)
    (repeat (first | (refine rel_quiet rfl ?_; ((first | go_big_quiet_skip | (go_big_quiet_want; go_big_quiet_op; go_big_quiet_on)); refine wpQuiet_nil ?_)) | ((first | refine rel_skip_some rfl (fun _ => rfl) ?_ | (apply rel_fact; (focus rfl); (focus rfl); (focus rfl); (focus (intro W hC hF; (skip); go_big_quiet_want; go_big_quiet_op; (first | go_big_quiet_on | (apply Exists.intro; refine ⟨fun _ => ?_, ?_⟩; (focus ((fail))); go_big_quiet_on)); exact wpQuiet_nil rfl)); (focus (first | exact fun _ => ⟨rfl, rfl⟩ | exact fun h => absurd h (by decide))))); ((first | go_big_quiet_skip | (go_big_quiet_want; go_big_quiet_op; go_big_quiet_on)); refine wpQuiet_nil ?_)) | refine rel_skip_none rfl (fun _ => rfl) ?_))
    (refine relT_nil ?_; rintro _ ⟨mq, rfl⟩ hF; simp only [List.forall_mem_cons] at hF; obtain ⟨f5, f2, -, -⟩ := hF)
    have hK5 := hidD (f5 _ _ rfl)
    obtain ⟨g2, hg2, hM2⟩ := f2 _ _ rfl
    have hb := below_more w5 mq
    have hz7 := hb.size
    replace HS := hidD (HS.out.later hb)
    replace HD := hidD (HD.out.later hb)
    replace fa := keep_below hb fa
    replace hG := Grew.trans hG hb
    replace hgs1 := Nat.lt_of_lt_of_le hgs1 hb.size
    replace hbs1 := Nat.lt_of_lt_of_le hbs1 hb.size
    clear hb lfa
    have lfa := lt_of_objAt fa
    clear f5 f2 hinj hbase hsv e1 e2 cK cD
    generalize more w5 mq = w7 at *
    generalize γ 0 = gn0 at *
    clear γ gv
    obtain ⟨g8, o8, c8, w8, hr8, hM8, h8⟩ := app32 (i := (Tryz.prog.info? 31).get (by kernel_rfl)) (z := ((Tryz.prog.info? 31).get (by kernel_rfl)).zero.get (by kernel_rfl)) (c2 := c5) Tryz.underlying27 (by kernel_rfl) (by kernel_rfl) (by kernel_rfl) (by kernel_rfl) (by kernel_rfl) w7 g2 o2 o5 q c9 nk L Kk hM2 hK5.out (by omega)
    have hk8 : Kept g2 g2 w7 w8 := by
     rcases h8 with ⟨h8, -⟩ | ⟨-, cs, cs', -, rfl⟩
     ·exact Kept.of h8
     ·exact Kept.row _ (.inl rfl)
    have hbg2 : b ≠ g2 := by omega
    have hgg2 : g3 ≠ g2 := by omega
    have hag2 : ga ≠ g2 := by omega
    have hg8 : w5.heap.size ≤ g8 := by
     have h7 := hz7
     rcases h8 with ⟨-, ⟨rfl, -⟩ | rfl⟩ | ⟨rfl, -⟩
     ·omega
     ·exact hg2
     ·exact hg2
    have HD8 := hidD hM8.kss
    have hqc8 : q + nk ≤ c8 := by
     rcases hM8 with ⟨h, h'⟩ | ⟨_, _, _, h, _⟩
     ·omega
     ·exact h
    have HB8 : Hid (0 < q + nk → ∀ ad, o8 = some ad → ad.block ≠ b ∧ ad.block ≠ g3) := fun h0 ad e => by
     rcases hM8 with ⟨h, -⟩ | ⟨o, cs, e9, -⟩
     ·omega
     ·rw [e9] at e
      cases e
      constructor <;> (show g8 ≠ _; omega)
    have HS8 := hidD (HS.out.kept hk8 hbg2 hbg2 hgg2 hgg2)
    have hG8 := hk8.below hG (Nat.le_trans hz5 hg2) (Nat.le_trans hz5 hg2)
    have hgs8 := Nat.lt_of_lt_of_le hgs1 hk8.size
    clear h8 hM8 hM2 hK5 hk8
    (refine tail_one (i := 6) (fuel := 1) (by kernel_rfl) rfl ?_; intro K hK; go_simp; refine hK _ _ ?_; clear hK K)
    clear hr8
    (refine tail_one (i := 7) (fuel := 0) (by kernel_rfl) rfl ?_; intro K hK; go_simp; refine hK _ _ ?_; clear hK K)
    (refine wpAny_done (by kernel_rfl) ?_ _)
    clear HS HD HB hG hgs1 hqc fa lfa hbs1
    have HS := HS8
    have HD := HD8
    have HB := HB8
    have hG := hG8
    have hgs1 := hgs8
    have hqc := hqc8
    clear HS8 HD8 HB8 hG8 hgs8 hqc8
    go_wp2_with fail
    refine (dleft_any HS.out).mono ?_
    rintro e w6 ⟨rfl, rfl⟩
    go_wp2
    go_roundw
    case rel => first | exact ⟨k + 1, b, g3, q + nk, (catK q L Kk), o8, c8, by omega, by go_num, rfl, rfl, by omega, by omega, hb0, hg5, hgs1, hG, HS, HD, HB⟩ | ((repeat' apply Exists.intro) <;> first | exact ⟨⟨k + 1, b, g3, q + nk, (catK q L Kk), o8, c8, by omega, by go_num, rfl, rfl, by omega, by omega, hb0, hg5, hgs1, hG, HS, HD, HB⟩, rfl⟩ | exact undef)
    case measure => (simp [intOf]; omega)
   case' gd =>
    go_wp2_with fail
    clear hl HS HD hG
    replace HS := HS1
    replace HD := HD1
    replace hG := hG1
    clear HS1 HD1 hG1
    generalize wr.alloc (.cells #[.int .u8 dk, .int .i64 zk, .slice oak nk ck] 30) = w2 at *
    generalize wr.heap.size = ga at *
    have lfa := lt_of_objAt fa
    have hqs : q ≤ 1048576 := by omega
    refine (dclone_any HS.out hqs).mono ?_
    rintro e w3 ⟨b2, g2, rfl, hb2, hg2, hgs2, hS2, hb⟩
    have HS2 := hidD hS2
    have hbs2 := hS2.lt
    have hbb2 : b2 ≠ b := by omega
    have hbg2 : b2 ≠ g := by omega
    have hgb2 : g2 ≠ b := by omega
    have hgg2 : g2 ≠ g := by omega
    have hwb2 : w.heap.size ≤ b2 := Nat.le_trans hG.size hb2
    have hwg2 : w.heap.size ≤ g2 := Nat.le_trans hG.size hg2
    have HB2 : Hid (0 < q → ∀ ad, od = some ad → ad.block ≠ b2 ∧ ad.block ≠ g2) := fun h ad e => by
     have h1 := HD.out
     rw [e] at h1
     have := k32_lt h1 h
     omega
    clear hS2 hb2 hg2
    replace HS := hidD (HS.out.later hb)
    replace HD := hidD (HD.out.later hb)
    replace fa := keep_below hb fa
    replace hG := Grew.trans hG hb
    replace hgs1 := Nat.lt_of_lt_of_le hgs1 hb.size
    replace hbs1 := Nat.lt_of_lt_of_le hbs1 hb.size
    clear hb lfa
    have lfa := lt_of_objAt fa
    have hK9 := fun W : World => one_key9 W
    have hB9 := fun W : World => build1k nine9 W
    go_wp2_with fail
    refine (dnext_all HS.out hqs).mono ?_
    rintro e w5 ⟨x9, y9, q5, L5, rfl, hq5, hS, hk9⟩
    replace HS2 := hidD (HS2.out.kept hk9 hbb2 hbg2 hgb2 hgg2)
    replace hgs2 := Nat.lt_of_lt_of_le hgs2 hk9.size
    replace hbs2 := Nat.lt_of_lt_of_le hbs2 hk9.size
    replace HS := hidD hS
    replace HD := hidD (hk9.kss HD.out HB.out)
    replace fa := hk9.obj fa hab hag
    replace hG := hk9.below hG hb0 hg0
    replace hgs1 := Nat.lt_of_lt_of_le hgs1 hk9.size
    replace hbs1 := Nat.lt_of_lt_of_le hbs1 hk9.size
    clear hS hk9 lfa
    have lfa := lt_of_objAt fa
    go_wp2_with fail
    have hK6 : Hid (K32At (w5.alloc (.cells (ints .u8 32 nine9) 32)) (some ⟨w5.heap.size, 0, none⟩) 1 (fun _ => nine9)) := k32_of_row (objAt_alloc_at _ _ _ rfl) (by omega) (rowK_one nine9)
    have hb : Below w5.heap.size w5 (w5.alloc (.cells (ints .u8 32 nine9) 32)) := Grew.alloc (Grew.refl _) _
    replace HS2 := hidD (HS2.out.later hb)
    replace hgs2 := Nat.lt_of_lt_of_le hgs2 hb.size
    replace hbs2 := Nat.lt_of_lt_of_le hbs2 hb.size
    replace HS := hidD (HS.out.later hb)
    replace HD := hidD (HD.out.later hb)
    replace fa := keep_below hb fa
    replace hG := Grew.trans hG hb
    replace hgs1 := Nat.lt_of_lt_of_le hgs1 hb.size
    replace hbs1 := Nat.lt_of_lt_of_le hbs1 hb.size
    clear hb lfa
    have lfa := lt_of_objAt fa
    generalize w5.alloc (.cells (ints .u8 32 nine9) 32) = w7 at *
    generalize w5.heap.size = gn at *
    refine (dadd_any HS.out hK6.out (by omega)).mono ?_
    rintro e w8 ⟨rfl, g3, hg3, hS, hk9, -⟩
    replace HS2 := hidD (HS2.out.kept hk9 hbb2 hbg2 hgb2 hgg2)
    replace hgs2 := Nat.lt_of_lt_of_le hgs2 hk9.size
    clear hS
    have hS := HS
    replace HD := hidD (hk9.kss HD.out HB.out)
    replace fa := hk9.obj fa hab hag
    replace hG := hk9.below hG hb0 hg0
    replace hgs1 := Nat.lt_of_lt_of_le hgs1 hk9.size
    replace hbs1 := Nat.lt_of_lt_of_le hbs1 hk9.size
    clear HS hS hk9 lfa
    have lfa := lt_of_objAt fa
    have HS := HS2
    have HB := HB2
    clear HS2 HB2 hgs1 hK6 hg3
    have hgs1 := hgs2
    go_wp2_with fail
    refine (dleft_any HS.out).mono ?_
    rintro e w6 ⟨rfl, rfl⟩
    go_wp2
    go_roundw
    case rel => first | exact ⟨k + 1, b2, g2, q, L, od, dc, by omega, by go_num, rfl, rfl, by omega, by omega, hwb2, hwg2, hgs1, hG, HS, HD, HB⟩ | ((repeat' apply Exists.intro) <;> first | exact ⟨⟨k + 1, b2, g2, q, L, od, dc, by omega, by go_num, rfl, rfl, by omega, by omega, hwb2, hwg2, hgs1, hG, HS, HD, HB⟩, rfl⟩ | exact undef)
    case measure => (simp [intOf]; omega)
  ·obtain rfl : k = m := by omega
   go_wp2
   go_ret
   exact ⟨rfl, hG⟩
end Go.Proofs.YteaillmjldoajaaGreatDoor
