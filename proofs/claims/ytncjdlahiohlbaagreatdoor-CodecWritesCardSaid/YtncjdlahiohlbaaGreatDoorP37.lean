/-
For every input the law CodecWrites of layer 16 returns true, and each argument reads afterwards as it read before; the listed tables of package sha and the listed handle of errors' type are tied to the program's text.
-/
import Derived.Test.YtncjdlahiohlbaaGreatDoorC16
import Derived.Test.YtncjdlahiohlbaaGreatDoorR12
import Derived.Test.YtncjdlahiohlbaaGreatDoorTrk
import Derived.Test.YtncjdlahiohlbaaGreatDoorTb
import Derived.Test.YtncjdlahiohlbaaGreatDoorAw
import Derived.Test.YtncjdlahiohlbaaGreatDoorV14
import Derived.Test.YtncjdlahiohlbaaGreatDoorE15
set_option maxRecDepth 100000
set_option maxHeartbeats 4000000
namespace Go.Proofs.YtncjdlahiohlbaaGreatDoor
open Go.RowKit Go.Extern
set_option linter.unusedVariables false
set_option linter.unusedSimpArgs false
def WSh (u : Value) : Prop := ∃ g : Nat, u = .agg #[.pointer (some ⟨g, 0, none⟩)]
def WAt (p : Option Addr) (b : ByteArray) (u : Value) (w : World) : Prop := ∀ g : Nat, u = .agg #[.pointer (some ⟨g, 0, none⟩)] → objAt w g = some (.cells #[.pointer p, .string b] 135)
theorem stab_wat (p : Option Addr) (b : ByteArray) (u : Value) : Stab (WAt p b u) none := fun w w' h e g hu => keep_below e (h g hu)
theorem stab_wat_at (p : Option Addr) (b : ByteArray) (u : Value) (g' : Nat) : Stab (WAt p b u) (some (g', 59)) := fun w w' h ⟨old, cs', t', h1, ⟨_, h2⟩, e⟩ g hu => by
 subst e
 subst h2
 have hh := h g hu
 exact (objAt_setRow_ne _ _ _ _ (fun e => by rw [e, h1] at hh; cases hh)).trans hh
theorem by_fitsW {P : Prop} (h : P := by first | exact by_fits | ((repeat (refine fits_cons ⟨by (first | exact stab_hdr_at _ _ _ _ | exact stab_wat_at _ _ _ _ | exact stab_wat _ _ _ | exact stab_hdr _ _ _ | exact stab_full _ _ _), by (first | exact stab_hdr_at _ _ _ _ | exact stab_wat_at _ _ _ _ | exact stab_wat _ _ _ | exact stab_hdr _ _ _ | exact stab_full _ _ _)⟩ ?_)); exact fits_nil (by (first | exact stab_hdr_at _ _ _ _ | exact stab_wat_at _ _ _ _ | exact stab_wat _ _ _ | exact stab_hdr _ _ _ | exact stab_full _ _ _)))) : P := h
theorem zero_writer (w : World) : (zeroValue 59).run Tryz.prog w = .ok (.agg #[.pointer none]) w := by kernel_rfl
theorem pow_fits : ∀ d : Fin 8, (2 : Int) ^ (8 * d.val) ≤ 72057594037927936 := by decide +kernel
theorem mask_of (d : Nat) (hd : d < 8) (x : Int) (h0 : 0 ≤ x) (h1 : x < 2 ^ 64) : bits .and .u64 x (IntKind.u64.wrap (IntKind.u64.wrap (2 ^ (8 * d)) - 1)) = x % 2 ^ (8 * d) := by
 have h := pow_fits ⟨d, hd⟩
 simp only at h
 have hp : (0 : Int) < 2 ^ (8 * d) := Int.pow_pos (by decide)
 have hm := bits_mask .u64 64 (by decide) wraps_u64 (8 * d) (by omega) x h0 h1
 have w1 : IntKind.u64.wrap (2 ^ (8 * d)) = 2 ^ (8 * d) := by rw [IntKind.wrap_u64]; omega
 have w2 : IntKind.u64.wrap (2 ^ (8 * d) - 1) = 2 ^ (8 * d) - 1 := by rw [IntKind.wrap_u64]; omega
 rw [w1, w2]
 exact hm
attribute [local irreducible] numB keysB
theorem codecWrites_any (aw : ∀ W : World, Tabs W → EtAt W → Calls Tryz.prog 10 #[] W fun e w' => e = .returned (.bool true) ∧ Below W.heap.size W w') (oz on oa : Option Addr) (n1 c1 n2 c2 nk ck : Nat) (Z M : Nat → Int) (K : Nat → Nat → Int) (raw : ByteArray) (w : World) (hZ : IntsAt .i64 w oz n1 Z) (hM : IntsAt .u64 w on n2 M) (hK : K32At w oa nk K) (gM : ∀ j, j < n2 → 0 ≤ M j ∧ M j ≤ 18446744073709551615) (gK : ∀ i, i < nk → Bytes 32 (K i)) (hT : Tabs w) (hE : EtAt w) :
  Calls Tryz.prog 4 #[.slice oz n1 c1, .slice on n2 c2, .slice oa nk ck, .string raw] w fun e w' => e = .returned (.bool true) ∧ Below w.heap.size w w' := by
 have HE : Hid (EtAt w) := hE
 have HZ : Hid (IntsAt .i64 w oz n1 Z) := hZ
 have HM : Hid (IntsAt .u64 w on n2 M) := hM
 have HK : Hid (K32At w oa nk K) := hK
 have GM : Hid (∀ j, j < n2 → 0 ≤ M j ∧ M j ≤ 18446744073709551615) := gM
 have GK : Hid (∀ i, i < nk → Bytes 32 (K i)) := gK
 clear hZ hM hK gM gK
 obtain ⟨N, hN⟩ : ∃ N : Nat, min (n1 : Int) (n2 : Int) = (N : Int) := ⟨min n1 n2, by omega⟩
 have hN1 : N ≤ n1 := by omega
 have hN2 : N ≤ n2 := by omega
 go_enter Tryz.func4, Tryz.ntmps4
 go_wp2_with fail
 refine (aw _ hT hE).mono ?_
 rintro e w1 ⟨rfl, hG⟩
 clear hT hE aw
 by_cases h40 : (40 : Int) < (N : Int)
 ·go_wp2
  go_ret
  exact ⟨rfl, hG⟩
 by_cases hk40 : (40 : Int) < (nk : Int)
 ·go_wp2
  go_ret
  exact ⟨rfl, hG⟩
 by_cases hr5 : (500 : Int) < (raw.size : Int)
 ·go_wp2
  go_ret
  exact ⟨rfl, hG⟩
 obtain ⟨Fx, hFx, hFk, hFr⟩ : ∃ Fx : Nat → ByteArray, Hid (∀ i, i < N → Fx i = numB (min (max (Z i) 0) 8).toNat (M i)) ∧ Hid (Fx N = keysB K nk) ∧ Fx (N + 1) = raw := ⟨fun i => if i < N then numB (min (max (Z i) 0) 8).toNat (M i) else if i = N then keysB K nk else raw, fun i hi => if_pos hi, by show (if N < N then _ else if N = N then _ else _) = _; rw [if_neg (by omega), if_pos rfl], by show (if N + 1 < N then _ else if N + 1 = N then _ else _) = _; rw [if_neg (by omega), if_neg (by omega)]⟩
 subst hFr
 have hcat : Hid (∀ k, k ≤ N → (catS Fx k).size ≤ 8 * k) := by
  refine hid1 fun k => ?_
  induction k with
  | zero => intro _; exact Nat.le_refl _
  | succ k ih =>
   intro hk
   show (catS Fx k ++ Fx k).size ≤ _
   rw [ByteArray.size_append, hFx.out k (by omega), numB_size]
   have := ih (by omega)
   omega
 go_wp2_with fail
 have fw : objAt (w1.alloc (.cells #[.pointer none] 59)) w1.heap.size = some (.cells #[.pointer none] 59) := objAt_alloc_at _ _ _ rfl
 have hG1 := Grew.alloc hG (.cells #[.pointer none] 59)
 have hgl := hG.size
 clear hG
 generalize w1.alloc (.cells #[.pointer none] 59) = w2 at *
 generalize w1.heap.size = gw at *
 go_loopw [11, 38] (fun s i wr => ∃ (k : Nat) (p : Option Addr), k ≤ N ∧ i = .int .i64 k ∧ s = .string (catS Fx k) ∧ Below w.heap.size w wr ∧ objAt wr gw = some (.cells #[.pointer p] 59) ∧ Hid (Pcs wr (revL Fx k) (.pointer p))) (fun _ i _ => N - (intOf i).toNat)
 case atStart => exact ⟨0, none, by omega, rfl, rfl, hG1, fw, rfl⟩
 case round =>
  clear hG1 fw
  obtain ⟨k, p, hk, rfl, rfl, hG, fw, HP⟩ := hrel
  have lfw := lt_of_objAt fw
  by_cases hlt : k < N
  ·obtain ⟨az, rfl⟩ := HZ.out.addr (by omega)
   obtain ⟨am, rfl⟩ := HM.out.addr (by omega)
   have hi1 : (k : Int) < (N : Int) := by omega
   have hi2 : (k : Int) < (n1 : Int) := by omega
   have hi3 : (k : Int) < (n2 : Int) := by omega
   have hi0 : (0 : Int) ≤ (k : Int) := by omega
   have l1 := fun q : More => HZ.out.cell (j := k) (by omega) (Grew.more hG q)
   have l2 := fun q : More => HM.out.cell (j := k) (by omega) (Grew.more hG q)
   obtain ⟨hm0, hm1⟩ := GM.out k (by omega)
   have hF := hid1 (hFx.out k hlt)
   have cN := fun W => wnum_any (Z k) (M k) p W hm0 hm1
   have cR := fun W => rNum_any (Z k) (M k) W hm0 hm1
   have hcs := hcat.out k hk
   have hcs1 := hcat.out (k + 1) hlt
   have hfs : FitsS (catS Fx k) (Fx k) := by show _ + _ ≤ _; rw [hF.out, numB_size]; omega
   rw [← hF.out] at cN cR
   have HCS : Hid (catS Fx k ++ Fx k = catS Fx (k + 1)) := rfl
   generalize hNB : Fx k = NB at *
   go_wp2_with fail
   refine wp_relv (fun k => k == 9) (fun k => match k with | 9 => fun u => WSh u | _ => fun _ => True) (fun k => match k with | 9 => fun u w => WAt p NB u w | _ => fun _ _ => True) (fun k => match k with | 9 => .agg #[.pointer (some ⟨0, 0, none⟩)] | _ => undef) (fun i hi => ?_) (by kernel_rfl) (by kernel_rfl) ?_
   ·simp only [Bool.or_eq_true, beq_iff_eq] at hi
    subst hi
    exact ⟨0, rfl⟩
   iterate 9 (first | refine exv_skip rfl ?_ | (refine exv_call rfl ?_; apply Exists.intro))
   refine exv_call rfl ⟨undef, ?_⟩
   iterate 2 (first | refine exv_skip rfl ?_ | (refine exv_call rfl ?_; apply Exists.intro))
   refine exv_nil ?_
   intro γ gv hsv hinj hbase
   obtain ⟨gq, e1⟩ := hsv 9 rfl
   (repeat (first | (refine rel_quiet rfl ?_; ((first | go_big_quiet_skip | (go_big_quiet_want; go_big_quiet_op; go_big_quiet_on)); refine wpQuiet_nil ?_)) | ((first | refine rel_skip_some rfl (fun _ => rfl) ?_ | ((try simp only [Nat.zero_add, Nat.reduceAdd]); apply rel_alloc _ _ alloc_cls; (focus rfl); (focus (intro W; (first | exact zero_key _ | exact zero_elem _ | exact zero_num _ | exact zero_pair _ | exact zero_rnode _ | exact zero_kpair _ | exact zero_writer _))); (focus (first | exact cells_ints _ _ _ | exact cells_two _ _ | rfl)); (focus (exact by_fitsW)))); ((first | go_big_quiet_skip | (go_big_quiet_want; go_big_quiet_op; go_big_quiet_on)); refine wpQuiet_nil ?_)) | refine rel_skip_none rfl (fun _ => rfl) ?_ | ((try simp only [Nat.zero_add, Nat.reduceAdd]); apply rel_store (setRow_cls (hbase _)); (focus rfl); (focus rfl); (focus rfl); (focus (first | exact cells_agg _ | exact cells_int _ _ | exact cells_bool _ | rfl)); rotate_left 3; (focus (exact by_mem)); rotate_right 3; (focus kernel_rfl); (focus (first | exact ints_size _ _ _ | rfl)); (focus (first | exact ints_ones _ _ _ | exact ones_two _ _ _ _ | kernel_rfl)); (focus (decide +kernel)); (focus (exact by_fitsW))) | (refine rel_callv #[.agg #[.pointer p], .int .i64 (Z k), .int .u64 (M k)] (enters_of Tryz.func25 (by kernel_rfl) rfl) rfl e1 rfl rfl rfl rfl (fits_nil (stab_wat _ _ _)) (by first | kernel_rfl | simp [go_sem]) ?_ ?_; (focus (intro W hC hF; obtain ⟨mm, rfl⟩ := hC; refine (cN _).mono ?_; rintro e w9 ⟨g, rfl, h1, hb9⟩; exact ⟨_, rfl, ⟨g, rfl⟩, (fun g2 e2 => by cases e2; exact h1), hb9⟩)); ((first | go_big_quiet_skip | (go_big_quiet_want; go_big_quiet_op; go_big_quiet_on)); refine wpQuiet_nil ?_))))
   (refine rel_nil ?_; rintro _ ⟨mq, rfl⟩ hF; simp only [List.forall_mem_cons] at hF; obtain ⟨fv, -, f1, -⟩ := hF)
   have hb : Below wr.heap.size wr (more wr mq) := below_more _ mq
   have hg0 : gw ≠ γ 10 := by have := hbase 10; omega
   replace HP : Hid (Pcs (more wr mq) (revL Fx k) (.pointer p)) := HP.out.later hb
   replace fw := keep_below hb fw
   replace hG := Grew.more hG mq
   have fq : objAt (more wr mq) gq = some (.cells #[.pointer p, .string NB] 135) := f1 gq rfl
   replace fv : objAt (more wr mq) (γ 10) = some (.cells #[.pointer (some ⟨gq, 0, none⟩)] 59) := fv
   clear f1 hb hinj hbase hsv e1 lfw l1 l2 cN
   generalize γ 10 = gv at *
   generalize more wr mq = w3 at *
   clear γ
   have lfw := lt_of_objAt fw
   have lfv := lt_of_objAt fv
   have HP2 : Hid (Pcs w3 (revL Fx (k + 1)) (.pointer (some ⟨gq, 0, none⟩))) := ⟨gq, _, rfl, by rw [hNB]; exact fq, HP.out⟩
   go_wp2_with fail
   refine (wtext_rev Fx k (.pointer p) _ HP.out (by omega) (by omega)).mono ?_
   rintro e w4 ⟨rfl, hb⟩
   replace HP2 : Hid (Pcs w4 (revL Fx (k + 1)) (.pointer (some ⟨gq, 0, none⟩))) := HP2.out.later hb
   replace fw := keep_below hb fw
   replace fv := keep_below hb fv
   replace hG := Grew.trans hG hb
   clear hb HP fq lfw lfv
   have lfw := lt_of_objAt fw
   have lfv := lt_of_objAt fv
   go_wp2_with fail
   replace HP2 : Hid (Pcs (w4.setRow gw #[.pointer (some ⟨gq, 0, none⟩)]) (revL Fx (k + 1)) (.pointer (some ⟨gq, 0, none⟩))) := HP2.out.put fw (by decide) _
   replace hG := Grew.setRow hG gw #[.pointer (some ⟨gq, 0, none⟩)] hgl
   replace fw := keep_row #[.pointer (some ⟨gq, 0, none⟩)] fw
   clear fv lfv lfw
   generalize w4.setRow gw #[.pointer (some ⟨gq, 0, none⟩)] = w5 at *
   have l1 := fun q : More => HZ.out.cell (j := k) (by omega) (Grew.more hG q)
   have l2 := fun q : More => HM.out.cell (j := k) (by omega) (Grew.more hG q)
   ((first | (with_reducible refine wp_region_on (by kernel_rfl) (by kernel_rfl) ?_) | refine wp_region_more (by kernel_rfl) (by kernel_rfl) ?_); (repeat (first | go_big_quiet_skip | (go_big_quiet_want; go_big_quiet_op; first | go_big_quiet_on | (apply Exists.intro; refine ⟨fun _ => ?_, ?_⟩; (focus (first | (with_reducible exact Calls.of_more (cR _)))); go_big_quiet_on)))); refine wpQuiet_nil ?_; rintro _ ⟨mq, rfl⟩)
   replace HP2 : Hid (Pcs (more w5 mq) (revL Fx (k + 1)) (.pointer (some ⟨gq, 0, none⟩))) := HP2.out.later (below_more w5 mq)
   replace fw := keep_more mq fw
   replace hG := Grew.more hG mq
   clear l1 l2 cR
   generalize more w5 mq = w6 at *
   go_wp2
   go_roundw
   case rel => first | exact ⟨k + 1, _, by omega, by go_num, by rw [HCS.out], hG, fw, HP2⟩ | ((repeat' apply Exists.intro) <;> first | exact ⟨⟨k + 1, _, by omega, by go_num, by rw [HCS.out], hG, fw, HP2⟩, rfl⟩ | exact undef)
   case measure => (simp [intOf]; omega)
  ·obtain rfl : k = N := by omega
   have hi1 : ¬ ((k : Int) < (k : Int)) := by omega
   have hks := keysB_size K nk
   have hct := hcat.out k (Nat.le_refl _)
   have cK := fun (W : World) (hb : Below w.heap.size w W) => wkeys_any K oa nk ck p W (HK.out.later hb) GK.out (by omega)
   rw [← hFk.out] at cK
   have hks2 : (Fx k).size = 32 * nk := by rw [hFk.out]; exact hks
   go_wp2_with fail
   refine (cK _ hG).mono ?_
   rintro e w3 ⟨gq, rfl, fq, hb⟩
   have HP2 : Hid (Pcs w3 (revL Fx (k + 1)) (.pointer (some ⟨gq, 0, none⟩))) := ⟨gq, _, rfl, fq, HP.out.later hb⟩
   replace fw := keep_below hb fw
   replace hG := Grew.trans hG hb
   clear hb HP fq lfw cK
   have lfw := lt_of_objAt fw
   go_wp2_with fail
   refine (wraw_any (some ⟨gq, 0, none⟩) (Fx (k + 1)) _).mono ?_
   rintro e w4 ⟨gr, rfl, fr, hb⟩
   have HP : Hid (Pcs w4 (revL Fx (k + 1 + 1)) (.pointer (some ⟨gr, 0, none⟩))) := ⟨gr, _, rfl, fr, HP2.out.later hb⟩
   replace fw := keep_below hb fw
   replace hG := Grew.trans hG hb
   clear hb HP2 fr lfw
   have lfw := lt_of_objAt fw
   have HT1 : Hid (∀ W, Pcs W (revL Fx (k + 1 + 1)) (.pointer (some ⟨gr, 0, none⟩)) → Calls Tryz.prog 26 #[.agg #[.pointer (some ⟨gr, 0, none⟩)]] W fun e w' => e = .returned (.string (catS Fx k ++ Fx k ++ Fx (k + 1))) ∧ Below W.heap.size W w') := hid1 fun W hP => wtext_rev Fx (k + 1 + 1) _ W hP (by omega) (by show (catS Fx k ++ Fx k ++ Fx (k + 1)).size + _ ≤ _; rw [ByteArray.size_append, ByteArray.size_append]; omega)
   have hf1 : FitsS (catS Fx k) (Fx k) := by show _ + _ ≤ _; omega
   have hf2 : FitsS (catS Fx k ++ Fx k) (Fx (k + 1)) := by show _ + _ ≤ _; rw [ByteArray.size_append]; omega
   have htl : Hid (catS Fx k ++ Fx k ++ Fx (k + 1) = tlB Fx (k + 2) ⟨#[]⟩ (k + 2)) := by
    have := tlB_cat Fx (k + 2) ⟨#[]⟩ (k + 2) (Nat.le_refl _)
    rw [Nat.sub_self] at this
    rw [← hid1 this]
    show _ = catS Fx k ++ Fx k ++ Fx (k + 1) ++ ByteArray.empty
    rw [ByteArray.append_empty]
   go_wp2_with fail
   replace HP : Hid (Pcs (w4.setRow gw #[.pointer (some ⟨gr, 0, none⟩)]) (revL Fx (k + 1 + 1)) (.pointer (some ⟨gr, 0, none⟩))) := HP.out.put fw (by decide) _
   replace hG := Grew.setRow hG gw #[.pointer (some ⟨gr, 0, none⟩)] hgl
   replace fw := keep_row #[.pointer (some ⟨gr, 0, none⟩)] fw
   clear lfw
   generalize w4.setRow gw #[.pointer (some ⟨gr, 0, none⟩)] = w5 at *
   refine (HT1.out _ HP.out).mono ?_
   rintro e w6 ⟨rfl, hb⟩
   replace HP := hid1 (HP.out.later hb)
   replace fw := keep_below hb fw
   replace hG := Grew.trans hG hb
   clear hb
   have lfw := lt_of_objAt fw
   go_wp2_with fail
   refine (keys12_any oa nk ck K _ (by omega) (HK.out.later hG)).mono ?_
   rintro e w6 ⟨ob, cb, rfl, hK6, hb⟩
   replace HP := hid1 (HP.out.later hb)
   replace fw := keep_below hb fw
   replace hG := Grew.trans hG hb
   clear hb lfw
   replace hK6 := hid1 hK6
   have cRK := fun W (hb : Below w6.heap.size w6 W) => rKeysT_any K ob nk cb W (hK6.out.later hb) (by omega)
   rw [← hFk.out] at cRK
   have lfw := lt_of_objAt fw
   go_wp2_with fail
   refine (cRK _ (Grew.refl _)).mono ?_
   rintro e w7 ⟨rfl, hb⟩
   replace HP := hid1 (HP.out.later hb)
   replace fw := keep_below hb fw
   replace hG := Grew.trans hG hb
   clear hb lfw cRK hK6
   have lfw := lt_of_objAt fw
   go_wp2_with fail
   refine (HT1.out _ HP.out).mono ?_
   rintro e w8 ⟨rfl, hb⟩
   replace hG := Grew.trans hG hb
   clear hb lfw fw HP HT1 hf1 hf2
   go_wp2_with fail
   refine (rover_any _ _).mono ?_
   rintro e w9 ⟨rfl, rfl⟩
   have HR0 := hid1 (RdAt.over w8 (catS Fx k ++ Fx k ++ Fx (k + 1)))
   have hG0 := Grew.alloc hG (.cells #[.string (catS Fx k ++ Fx k ++ Fx (k + 1)), .nilIface] 120)
   have hgl2 := hG.size
   clear hG hgl
   go_wp2_with fail
   generalize w8.alloc (.cells #[.string (catS Fx k ++ Fx k ++ Fx (k + 1)), .nilIface] 120) = w9 at *
   rw [htl.out] at HR0
   clear htl
   generalize w8.heap.size = g at *
   go_loopw [87] (fun i wr => ∃ j : Nat, j ≤ k ∧ i = .int .i64 j ∧ Below w.heap.size w wr ∧ Hid (RdAt wr g (tlB Fx (k + 2) ⟨#[]⟩ (k + 2 - j)) 0)) (fun i _ => k - (intOf i).toNat)
   case atStart => exact ⟨0, by omega, rfl, hG0, HR0⟩
   case round =>
    clear hG0 HR0
    obtain ⟨j, hj, rfl, hG, HR⟩ := hrel
    by_cases hlt2 : j < k
    ·obtain ⟨az, rfl⟩ := HZ.out.addr (by omega)
     obtain ⟨am, rfl⟩ := HM.out.addr (by omega)
     have hi1 : (j : Int) < (k : Int) := by omega
     have hi2 : (j : Int) < (n1 : Int) := by omega
     have hi3 : (j : Int) < (n2 : Int) := by omega
     have hi0 : (0 : Int) ≤ (j : Int) := by omega
     have l1 := fun q : More => HZ.out.cell (j := j) (by omega) (Grew.more hG q)
     have l10 := HZ.out.cell (j := j) (by omega) hG
     have l20 := HM.out.cell (j := j) (by omega) hG
     obtain ⟨hm0, hm1⟩ := GM.out j (by omega)
     have hF := hFx.out j hlt2
     obtain ⟨d, hd, hd8⟩ : ∃ d : Nat, min (max (Z j) 0) 8 = (d : Int) ∧ d ≤ 8 := ⟨(min (max (Z j) 0) 8).toNat, by omega, by omega⟩
     rw [hd, Int.toNat_natCast] at hF
     obtain ⟨q1, q2, q3⟩ := tk_tl Fx (k + 2) j (by omega) (d : Int) (by rw [hF, numB_size])
     have cN := num_st (Z j) HR.out
     rw [hd, q1, q2, q3, hF, numB_read] at cN
     clear q1 q2 q3 HR
     generalize Z j = z at *
     generalize hm : M j = m at *
     go_wp2_with fail
     refine cN.mono ?_
     rintro e w10 ⟨rfl, HR, HO⟩
     replace hG := HO.below hG hgl2
     replace HR := hid1 HR
     clear HO cN l1 l10 l20
     have l2 := fun q : More => HM.out.cell (j := j) (by omega) (Grew.more hG q)
     rw [hm] at l2
     go_wp2_with fail
     by_cases hd7 : d < 8
     ·have c1 : (d : Int) < 8 := by omega
      have c2 : ((d : Int) == 8) = false := beq_eq_false_iff_ne.2 (by omega)
      have c3 : ¬ (d = 8) := by omega
      have hmk : (m % 2 ^ (8 * d) != bits .and .u64 m (IntKind.u64.wrap (IntKind.u64.wrap (2 ^ (8 * d)) - 1))) = false := by rw [mask_of d hd7 m hm0 (by omega)]; simp
      have h80 : ¬ (8 * (d : Int) < 0) := by omega
      ((first | (with_reducible refine wp_region_on (by kernel_rfl) (by kernel_rfl) ?_) | refine wp_region_more (by kernel_rfl) (by kernel_rfl) ?_); (repeat (first | go_big_quiet_skip | (go_big_quiet_want; go_big_quiet_op; first | go_big_quiet_on | (apply Exists.intro; refine ⟨fun _ => ?_, ?_⟩; (focus (fail)); go_big_quiet_on)))); refine wpQuiet_nil ?_; rintro _ ⟨mq, rfl⟩)
      replace HR := hid1 (HR.out.later (below_more w10 mq))
      replace hG := Grew.more hG mq
      clear l2
      generalize more w10 mq = w11 at *
      go_wp2
      go_roundw
      case rel => first | exact ⟨j + 1, by omega, by go_num, hG, HR⟩ | ((repeat' apply Exists.intro) <;> first | exact ⟨⟨j + 1, by omega, by go_num, hG, HR⟩, rfl⟩ | exact undef)
      case measure => (simp [intOf]; omega)
     ·obtain rfl : d = 8 := by omega
      have hmm : m % 2 ^ (8 * 8) = m := Int.emod_eq_of_lt hm0 (by omega)
      rw [hmm]
      ((first | (with_reducible refine wp_region_on (by kernel_rfl) (by kernel_rfl) ?_) | refine wp_region_more (by kernel_rfl) (by kernel_rfl) ?_); (repeat (first | go_big_quiet_skip | (go_big_quiet_want; go_big_quiet_op; first | go_big_quiet_on | (apply Exists.intro; refine ⟨fun _ => ?_, ?_⟩; (focus (fail)); go_big_quiet_on)))); refine wpQuiet_nil ?_; rintro _ ⟨mq, rfl⟩)
      replace HR := hid1 (HR.out.later (below_more w10 mq))
      replace hG := Grew.more hG mq
      clear l2
      generalize more w10 mq = w11 at *
      go_wp2
      go_roundw
      case rel => first | exact ⟨j + 1, by omega, by go_num, hG, HR⟩ | ((repeat' apply Exists.intro) <;> first | exact ⟨⟨j + 1, by omega, by go_num, hG, HR⟩, rfl⟩ | exact undef)
      case measure => (simp [intOf]; omega)
    ·obtain rfl : j = k := by omega
     have hi1 : ¬ ((j : Int) < (j : Int)) := by omega
     have e1 : tlB Fx (j + 2) ⟨#[]⟩ (j + 2 - (j + 1)) = Fx (j + 1) := by
      rw [tlB_at _ _ _ (j + 1) (by omega), show j + 2 - (j + 1 + 1) = 0 by omega]
      show Fx (j + 1) ++ ByteArray.empty = _
      rw [ByteArray.append_empty]
     have hS : (tlB Fx (j + 2) ⟨#[]⟩ (j + 2 - j)).size = 32 * nk + (Fx (j + 1)).size := by rw [tlB_at _ _ _ j (by omega), ByteArray.size_append, hks2, e1]
     have hkN : ksN (tlB Fx (j + 2) ⟨#[]⟩ (j + 2 - j)) (nk : Int) = ((Fx j).size : Int) := by unfold ksN; rw [hS, hks2]; omega
     obtain ⟨q1, q2, q3⟩ := tk_tl Fx (j + 2) j (by omega) _ hkN.symm
     have cK := keys_st (nk : Int) HR.out (by rw [hS]; omega)
     have hz : (Fx j).size / 32 = nk := by omega
     rw [q1, q2, q3, e1, hz] at cK
     clear q1 q2 q3 hz hkN hS e1 HR
     go_wp2_with fail
     refine cK.mono ?_
     rintro e w10 ⟨oc, cc, rfl, hK1, HR, HO⟩
     replace hG := HO.below hG hgl2
     replace HR := hid1 HR
     have hK1 : Hid (K32At w10 oc nk K) := hK1.congr2 fun i hi q hq => by
      rw [hFk.out]
      exact byteAt_keysB K nk GK.out nk (Nat.le_refl _) i hi q hq
     clear HO cK
     go_wp2_with fail
     refine (keys12_any oa nk ck K _ (by omega) (HK.out.later hG)).mono ?_
     rintro e w11 ⟨od, cd, rfl, hK2, hb⟩
     replace hK2 := hid1 hK2
     replace hK1 := hid1 (hK1.out.later hb)
     replace HR := hid1 (HR.out.later hb)
     replace hG := Grew.trans hG hb
     clear hb
     go_wp2_with fail
     refine (same12_any _ _ nk _ _ K _ (by omega) hK1.out hK2.out).mono ?_
     rintro e w12 ⟨rfl, hb⟩
     replace HR := hid1 (HR.out.later hb)
     replace hG := Grew.trans hG hb
     clear hb hK1 hK2
     go_wp2_with fail
     refine (left_st HR.out).mono ?_
     rintro e w13 ⟨rfl, rfl⟩
     go_wp2_with fail
     refine (end_st HR.out).mono ?_
     rintro e w14 ⟨u, rfl, hu, hb⟩
     replace hG := Grew.trans hG hb
     clear hb HR
     by_cases hr0 : (Fx (j + 1)).size = 0
     ·have hE0 : enE (Fx (j + 1)) 0 = 0 := by unfold enE; rw [if_neg (fun h => h.2 hr0)]
      rw [hE0] at hu
      have hR : Fx (j + 1) = ⟨#[]⟩ := ByteArray.size_eq_zero_iff.1 hr0
      generalize Fx (j + 1) = R at *
      subst hR
      rcases hu with ⟨-, rfl⟩ | ⟨h0, -⟩
      ·go_wp2
       go_ret
       exact ⟨rfl, hG⟩
      ·exact absurd rfl h0
     ·have hE0 : enE (Fx (j + 1)) 0 = 2 := by unfold enE; rw [if_pos ⟨rfl, hr0⟩]
      rw [hE0] at hu
      have hnE := isEmpty_no hr0
      have hne : ¬ (Fx (j + 1) = ⟨#[]⟩) := fun e => hr0 (by rw [e]; rfl)
      generalize Fx (j + 1) = R at *
      rcases hu with ⟨h0, -⟩ | ⟨-, t, x, l, rfl, -⟩
      ·exact absurd h0 (by decide)
      ·go_wp2
       go_ret
       exact ⟨rfl, hG⟩
end Go.Proofs.YtncjdlahiohlbaaGreatDoor
namespace Go.Proofs.YtncjdlahiohlbaaGreatDoor
open Go.ChangeShapes Go.WideShapes Go.ChangeAt Go.RowKit
open Go.ChangeMaps (open_string shut_string)
set_option linter.unusedVariables false
set_option linter.unusedSimpArgs false
theorem bounds_u64' {n : Int} (h : (Lit.int .u64 n).wf = true) : 0 ≤ n ∧ n ≤ 18446744073709551615 := by
 simp [Lit.wf, IntKind.min, IntKind.max, IntKind.signed, IntKind.bits] at h
 omega
theorem codecWrites_lifted (os : Os) (started : os.Started) (H : Type) (enc : TypeId × Value → H) :
  ReturnsInHanded {} Tryz.checked os 4 .any (fun w args => (Rows.codecWritesSpec.pre enc Tryz.prog Tryz.f4 [] false w args ∧ laidMetH Tryz.prog Rows.codecWritesRow.laid w) ∧ sizedMet enc Tryz.prog Tryz.f4 (OpenSpec.ofChange Rows.codecWritesSpec) false w args)
   (Rows.codecWritesSpec.post enc Tryz.prog Tryz.f4 false true false false) := by
 refine returnsInHanded_of_change_and (C := Tryz.checked) (X := fun w _ => laidMetH Tryz.prog Rows.codecWritesRow.laid w) (fun _ _ _ hh h => h.of_heap hh) own started (by kernel_rfl) Tryz.func4
  (ChangeSpec.witness_shaped (enc := enc) (C := Tryz.checked) (os := os) (X := fun w _ => laidMetH Tryz.prog Rows.codecWritesRow.laid w) false (hwL os) #[.slice none 0 0, .slice none 0 0, .slice none 0 0, .string ⟨#[]⟩] 8 (hwL_os os)
   (World.shaped_of_ZipB (by kernel_rfl) (by kernel_rfl)) (by kernel_rfl) (by kernel_rfl) (by kernel_rfl)
   (hwL_met os _)) ?_
 intro W base args ds gs before hval0 hW _ _ hL _
 have hval : ∀ (j : Nat) t v, Tryz.f4.params[j]? = some t → args[j]? = some v → Value.okWide Tryz.prog W .any base t v := hval0
 have hW' := hW
 obtain ⟨p, q, hA0, hV, rfl, hfz, hnd⟩ := hW
 have hA : DataW.TrodAll enc Tryz.prog W 0 (fun _ => true) true Tryz.f4.params.toList args.toList ds p := hA0
 rw [Tryz.params4] at hA hval
 obtain ⟨v0, vs0, d0, ds0, p0, q0, hargs, rfl, rfl, h0, r0⟩ := trodAll_cons hA
 obtain ⟨v1, vs1, d1, ds1, p1, q1, rfl, rfl, rfl, h1, r1⟩ := trodAll_cons r0
 obtain ⟨v2, vs2, d2, ds2, p2, q2, rfl, rfl, rfl, h2, r2⟩ := trodAll_cons r1
 obtain ⟨v3, vs3, d3, ds3, p3, q3, rfl, rfl, rfl, h3, r3⟩ := trodAll_cons r2
 obtain ⟨rfl, rfl, rfl⟩ := trodAll_nil r3
 obtain rfl : args = #[v0, v1, v2, v3] := by cases args; simp_all
 obtain ⟨rfl, rfl⟩ := trodVars_none hV
 have k0 := h0
 have lt0 : ∀ x ∈ p0, x.block < W.heap.size := by obtain ⟨m, hm⟩ := k0; exact DataW.trod_lt m _ _ _ hm
 have k1 := h1
 have lt1 : ∀ x ∈ p1, x.block < W.heap.size := by obtain ⟨m, hm⟩ := k1; exact DataW.trod_lt m _ _ _ hm
 have k2 := h2
 have lt2 : ∀ x ∈ p2, x.block < W.heap.size := by obtain ⟨m, hm⟩ := k2; exact DataW.trod_lt m _ _ _ hm
 have k3 := h3
 have lt3 : ∀ x ∈ p3, x.block < W.heap.size := by obtain ⟨m, hm⟩ := k3; exact DataW.trod_lt m _ _ _ hm
 obtain ⟨oa0, n0, c0, a0, rfl, m0, b0, w0⟩ := open_ints Tryz.underlying55 Tryz.underlying3 (by kernel_rfl) (hval 0 55 v0 rfl rfl) h0
 obtain ⟨oa1, n1, c1, a1, rfl, m1, b1, w1⟩ := open_ints Tryz.underlying56 Tryz.underlying30 (by kernel_rfl) (hval 1 56 v1 rfl rfl) h1
 obtain ⟨oa2, n2, c2, a2, rfl, b2, m2, w2⟩ := open_k32 (hval 2 43 v2 rfl rfl) h2
 obtain ⟨a3, rfl, _, _, w3⟩ := open_string Tryz.underlying9 (hval 3 9 v3 rfl rfl) h3
 clear hA0 hval0
 obtain ⟨hT, hE⟩ := laid3_of hL
 refine (codecWrites_any (fun W h hE => awake16_any (fun W h hE => Awake15_any (fun W h hE => awake15_any (fun W h => Awake14_any (fun W h => awake14_any (fun W h => Awake13_any (fun W h => awake13_any (fun W h => Awake12_any aw12 W h) W h) W h) W h) W h) W h hE) W h hE) W h hE) oa0 oa1 oa2 n0 c0 n1 c1 n2 c2 a0 a1 a2 a3 W w0 w1 w2 (fun j hj => bounds_u64' (b1 j hj)) m2 hT hE).mono fun e W' ⟨he, bel⟩ => ?_
 subst he
 exact ⟨_, rfl, _, _, _, [], _, [], hW', trodAll_mk1 (shut_bool Tryz.underlying4 _), (trodAll_cons_mk (Below.trod laidOut (by kernel_rfl) (of_decide_eq_true (by kernel_rfl)) k0 bel lt0) (trodAll_cons_mk (Below.trod laidOut (by kernel_rfl) (of_decide_eq_true (by kernel_rfl)) k1 bel lt1) (trodAll_cons_mk (Below.trod laidOut (by kernel_rfl) (of_decide_eq_true (by kernel_rfl)) k2 bel lt2) (trodAll_cons_mk (Below.trod laidOut (by kernel_rfl) (of_decide_eq_true (by kernel_rfl)) k3 bel lt3) trodAll_mk0)))), rfl, bel.frame _, fun h => by cases h⟩
theorem codecWrites_closed : joinedFacts Tryz.prog 4 Tryz.f4 (Rows.codecWritesSpec) Rows.codecWritesRow = true := by
 first
 | (unfold joinedFacts; rw [may_enter, make_is, lifts_is]; first | (rw [norec 4 (by decide)]; kernel_rfl) | kernel_rfl)
 | kernel_rfl
theorem codecWrites_said : Rows.CodecWritesSaid :=
 OpenClaim.holds_of_wide 4 Tryz.f4 rfl rfl rfl rfl rfl rfl rfl ⟨rfl, rfl, rfl, rfl, rfl⟩ rfl rfl rfl rfl rfl (by kernel_rfl) Tryz.func4 (by first | exact codecWrites_closed | kernel_rfl)
  (of_decide_eq_true (by kernel_rfl)) (by unfold Func.isWrapper; first | (rw [if_pos (by decide +kernel)]; kernel_rfl) | (rw [if_neg (by decide +kernel)]; exact ⟨rfl, rfl⟩))
  (fun os started H enc _ => codecWrites_lifted os started H enc)
theorem codecWrites_card : Rows.CodecWritesCardSaid :=
 Claim7.holds_tied_plain_at .later [] _ _ _ _ codecWrites_said (fun _ h => by cases h) (by kernel_rfl) (fun _ h => by cases h) codecWrites_row_tie rfl ⟨rfl, rfl⟩ (by kernel_rfl) rfl
  (fun f fn hf hfn => by
   obtain rfl : f = 4 := Option.some.inj ((show Tryz.prog.funcNamed "sapwood/sapwoodlaw16.CodecWrites" = some 4 by kernel_rfl).symm.trans hf) |>.symm
   obtain rfl : fn = Tryz.f4 := (Option.some.inj (Tryz.func4.symm.trans hfn)).symm
   exact ⟨by kernel_rfl, fun j t ht => by
    rw [Tryz.params4] at ht
    have hm : t ∈ [55, 56, 43, 9] := by simpa using Array.mem_of_getElem? ht
    have hall : ([55, 56, 43, 9].all fun u => !Tryz.prog.wantsStandIn u) = true := by kernel_rfl
    exact (show Tryz.prog.wantsStandIn t = false by simpa using List.all_eq_true.1 hall t hm)⟩)
  (by kernel_rfl)
end Go.Proofs.YtncjdlahiohlbaaGreatDoor
