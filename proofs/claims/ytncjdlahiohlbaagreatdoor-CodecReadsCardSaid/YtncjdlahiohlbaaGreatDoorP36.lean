/-
For every input the law CodecReads of layer 16 returns true, and each argument reads afterwards as it read before; the listed tables of package sha and the listed handle of errors' type are tied to the program's text.
-/
import Derived.Test.YtncjdlahiohlbaaGreatDoorC16
import Derived.Test.YtncjdlahiohlbaaGreatDoorR12
import Derived.Test.YtncjdlahiohlbaaGreatDoorTrk
import Derived.Test.YtncjdlahiohlbaaGreatDoorTb
import Derived.Test.YtncjdlahiohlbaaGreatDoorAw
import Derived.Test.YtncjdlahiohlbaaGreatDoorV14
import Derived.Test.YtncjdlahiohlbaaGreatDoorE15
set_option maxRecDepth 100000
set_option maxHeartbeats 4000000
namespace Go.Proofs.YtncjdlahiohlbaaGreatDoor
open Go.RowKit Go.Extern
set_option linter.unusedVariables false
set_option linter.unusedSimpArgs false
theorem or_four {a b c d G : Prop} (h : a ∨ b ∨ c ∨ d) (h1 : a → G) (h2 : b → G) (h3 : c → G) (h4 : d → G) : G := by
 rcases h with h | h | h | h
 ·exact h1 h
 ·exact h2 h
 ·exact h3 h
 ·exact h4 h
theorem by_two (a : Prop) {G : Prop} (h1 : a → G) (h2 : ¬ a → G) : G := (Classical.em a).elim h1 h2
theorem stab_erv (u : Value) (E : Int) : Stab (fun w => ErV w u E) none := fun w w' h e => h.later e
theorem cut_w {K : Act → World → Prop} {G : Prop} (X : World → Prop) (F : Act) (h1 : (∀ w, X w → K F w) → G) (h2 : ∀ w, X w → K F w) : G := h1 h2
theorem codecReads_any (aw : ∀ W : World, Tabs W → EtAt W → Calls Tryz.prog 10 #[] W fun e w' => e = .returned (.bool true) ∧ Below W.heap.size W w') (s : ByteArray) (oa : Option Addr) (n c : Nat) (D Z X : Nat → Int) (w : World) (hA : ActsAt w oa n D Z X) (hB : ∀ j, j < n → (0 ≤ D j ∧ D j ≤ 255) ∧ (-9223372036854775808 ≤ Z j ∧ Z j ≤ 9223372036854775807) ∧ (0 ≤ X j ∧ X j ≤ 255)) (hT : Tabs w) (hE : EtAt w) :
  Calls Tryz.prog 3 #[.string s, .slice oa n c] w fun e w' => e = .returned (.bool true) ∧ Below w.heap.size w w' := by
 have HE : Hid (EtAt w) := hE
 have HA : Hid (ActsAt w oa n D Z X) := hA
 have HB : Hid (∀ j, j < n → (0 ≤ D j ∧ D j ≤ 255) ∧ (-9223372036854775808 ≤ Z j ∧ Z j ≤ 9223372036854775807) ∧ (0 ≤ X j ∧ X j ≤ 255)) := hB
 clear hA hB
 go_enter Tryz.func3, Tryz.ntmps3
 go_wp2_with fail
 refine (aw _ hT hE).mono ?_
 rintro e w1 ⟨rfl, hG⟩
 clear hT hE aw
 by_cases hbig : (2000 : Int) < (s.size : Int)
 ·go_wp2
  go_ret
  exact ⟨rfl, hG⟩
 by_cases hn60 : (60 : Int) < (n : Int)
 ·go_wp2
  go_ret
  exact ⟨rfl, hG⟩
 go_wp2_with fail
 refine (rover_any _ _).mono ?_
 rintro e w2 ⟨rfl, rfl⟩
 have HR0 : Hid (RdAt ((w1.alloc (.cells #[.string s, .nilIface] 120)).alloc (.cells #[.string (s), .int .i64 (0)] 27)) w1.heap.size s 0) := (RdAt.over w1 s).later (Grew.alloc (Grew.refl _) _)
 have fd : objAt ((w1.alloc (.cells #[.string s, .nilIface] 120)).alloc (.cells #[.string (s), .int .i64 (0)] 27)) (w1.heap.size + 1) = some (.cells #[.string (s), .int .i64 (0)] 27) := objAt_alloc_at _ _ _ (by simp)
 have hG2 : Below w.heap.size w ((w1.alloc (.cells #[.string s, .nilIface] 120)).alloc (.cells #[.string (s), .int .i64 (0)] 27)) := Grew.alloc (Grew.alloc hG _) _
 have hgl := hG.size
 have hgd : w1.heap.size + 1 ≠ w1.heap.size := by omega
 have hgdl : w.heap.size ≤ w1.heap.size + 1 := by omega
 clear hG
 go_wp2_with fail
 generalize (w1.alloc (.cells #[.string s, .nilIface] 120)).alloc (.cells #[.string (s), .int .i64 (0)] 27) = w3 at *
 generalize w1.heap.size + 1 = gd at *
 generalize w1.heap.size = g at *
 go_loopw [34] (fun i wr => ∃ (k : Nat) (S : ByteArray) (E : Int), k ≤ n ∧ i = .int .i64 k ∧ S.size ≤ 2000 ∧ (0 ≤ E ∧ E ≤ 22) ∧ Below w.heap.size w wr ∧ Hid (RdAt wr g S E) ∧ objAt wr gd = some (.cells #[.string (S), .int .i64 (E)] 27)) (fun i _ => n - (intOf i).toNat)
 case atStart => exact ⟨0, s, 0, by omega, rfl, by omega, by omega, hG2, HR0, fd⟩
 case round =>
  clear hG2 HR0 fd
  obtain ⟨k, S, E, hk, rfl, hS, hE0, hG, HR, fd⟩ := hrel
  by_cases hlt : k < n
  ·obtain ⟨ad, rfl⟩ := HA.out.addr (by omega)
   have hl := HA.out.load hlt hG
   obtain ⟨⟨hd0, hd1⟩, ⟨hz0, hz1⟩, hx0, hx1⟩ := HB.out k hlt
   have hi1 : (k : Int) < (n : Int) := by omega
   have hi0 : (0 : Int) ≤ (k : Int) := by omega
   have lfd := lt_of_objAt fd
   have lg := HR.out.lt
   have fa : objAt (wr.alloc (.cells #[.int .u8 (D k), .int .i64 (Z k), .int .u8 (X k)] 29)) wr.heap.size = some (.cells #[.int .u8 (D k), .int .i64 (Z k), .int .u8 (X k)] 29) := objAt_alloc_at _ _ _ rfl
   generalize D k = dk at *
   generalize Z k = zk at *
   generalize X k = xk at *
   have HR1 : Hid (RdAt (wr.alloc (.cells #[.int .u8 dk, .int .i64 zk, .int .u8 xk] 29)) g S E) := HR.out.later (Grew.alloc (Grew.refl _) _)
   have fd1 := keep_alloc (.cells #[.int .u8 dk, .int .i64 zk, .int .u8 xk] 29) fd
   have hG1 := Grew.alloc hG (.cells #[.int .u8 dk, .int .i64 zk, .int .u8 xk] 29)
   have hag : wr.heap.size ≠ g := by omega
   have had : wr.heap.size ≠ gd := by omega
   have hq4 : dk.tmod 4 = 0 ∨ dk.tmod 4 = 1 ∨ dk.tmod 4 = 2 ∨ dk.tmod 4 = 3 := by
    rw [Int.tmod_eq_emod_of_nonneg hd0]
    omega
   refine or_four hq4 ?ga ?gb ?gc ?gd
   all_goals
    intro hq
    clear hq4
   case' ga =>
    have cT := fun W => rTake_any S E zk W
    have cN := fun (W : World) (h : RdAt W g S E) => num_st zk h
    have hS2 : (tkS S E (min (max zk 0) 8)).size ≤ 2000 := Nat.le_trans (tkS_le _ _ _) hS
    have hE2 := tkE_bd S E (min (max zk 0) 8) hE0
    generalize beK (tkT S E (min (max zk 0) 8)) (tkT S E (min (max zk 0) 8)).size = V at *
    generalize tkS S E (min (max zk 0) 8) = S2 at *
    generalize tkE S E (min (max zk 0) 8) = E2 at *
    go_wp2_with fail
    clear hl HR fd hG lfd lg
    replace HR := HR1
    replace fd := fd1
    replace hG := hG1
    clear HR1 fd1 hG1
    generalize wr.alloc (.cells #[.int .u8 dk, .int .i64 zk, .int .u8 xk] 29) = w2 at *
    generalize wr.heap.size = ga at *
    have lfd := lt_of_objAt fd
    have lfa := lt_of_objAt fa
    have lg := HR.out.lt
    refine (cT _).mono ?_
    rintro e w3 ⟨rfl, hb⟩
    replace HR : Hid (RdAt _ g S E) := HR.out.later hb
    replace fd := keep_below hb fd
    replace fa := keep_below hb fa
    replace hG := Grew.trans hG hb
    clear hb lfd lfa lg
    have lfd := lt_of_objAt fd
    have lfa := lt_of_objAt fa
    have lg := HR.out.lt
    go_wp2_with fail
    have fn : objAt (w3.alloc (.cells #[.string S2, .int .i64 E2] 27)) w3.heap.size = some (.cells #[.string S2, .int .i64 E2] 27) := objAt_alloc_at _ _ _ rfl
    replace HR : Hid (RdAt (w3.alloc (.cells #[.string S2, .int .i64 E2] 27)) g S E) := HR.out.later (Grew.alloc (Grew.refl _) _)
    replace fd := keep_alloc (.cells #[.string S2, .int .i64 E2] 27) fd
    replace fa := keep_alloc (.cells #[.string S2, .int .i64 E2] 27) fa
    replace hG := Grew.alloc hG (.cells #[.string S2, .int .i64 E2] 27)
    have hng : w3.heap.size ≠ g := by omega
    have hnd : w3.heap.size ≠ gd := by omega
    clear lfd lfa lg
    generalize w3.alloc (.cells #[.string S2, .int .i64 E2] 27) = w4 at *
    generalize w3.heap.size = gn at *
    refine (cN _ HR.out).mono ?_
    rintro e w4 ⟨rfl, HR2, HO⟩
    replace HR2 : Hid (RdAt _ g S2 E2) := HR2
    replace fd := HO.keep fd hgd
    replace fa := HO.keep fa hag
    replace fn := HO.keep fn hng
    replace hG := HO.below hG hgl
    clear HO HR cT cN
    have lfn := lt_of_objAt fn
    have hgx := lt_of_objAt fd
    go_wp2_with fail
    clear hgx
    replace HR : Hid (RdAt (w4.setRow gd (#[.string S2, .int .i64 E2])) g S2 E2) := HR2.out.put fd (by decide) (fun e => hgd e.symm) _
    replace hG := Grew.setRow hG gd (#[.string S2, .int .i64 E2]) hgdl
    replace fd := keep_row (#[.string S2, .int .i64 E2]) fd
    generalize w4.setRow gd (#[.string S2, .int .i64 E2]) = w5 at *
    clear fn lfn hng hnd fa HR2
   case' gb =>
    have cT := fun W => rKey_any S E W
    have cN := fun (W : World) (h : RdAt W g S E) => key_st h
    have hS2 : (tkS S E 32).size ≤ 2000 := Nat.le_trans (tkS_le _ _ _) hS
    have hE2 := tkE_bd S E 32 hE0
    generalize putT nought 0 (tkT S E 32).size (tkT S E 32) = KF at *
    generalize tkS S E 32 = S2 at *
    generalize tkE S E 32 = E2 at *
    have hsm := same_refl 32 KF
    go_wp2_with fail
    clear hl HR fd hG lfd lg
    replace HR := HR1
    replace fd := fd1
    replace hG := hG1
    clear HR1 fd1 hG1
    generalize wr.alloc (.cells #[.int .u8 dk, .int .i64 zk, .int .u8 xk] 29) = w2 at *
    generalize wr.heap.size = ga at *
    have lfd := lt_of_objAt fd
    have lfa := lt_of_objAt fa
    have lg := HR.out.lt
    refine (cT _).mono ?_
    rintro e w3 ⟨rfl, hb⟩
    replace HR : Hid (RdAt _ g S E) := HR.out.later hb
    replace fd := keep_below hb fd
    replace fa := keep_below hb fa
    replace hG := Grew.trans hG hb
    clear hb lfd lfa lg
    have lfd := lt_of_objAt fd
    have lfa := lt_of_objAt fa
    have lg := HR.out.lt
    go_wp2_with fail
    have fn : objAt ((w3.alloc (.cells #[.string S2, .int .i64 E2] 27)).alloc (.cells (ints .u8 32 (KF)) 34)) w3.heap.size = some (.cells #[.string S2, .int .i64 E2] 27) := keep_alloc _ (objAt_alloc_at _ _ _ rfl)
    have fk : objAt ((w3.alloc (.cells #[.string S2, .int .i64 E2] 27)).alloc (.cells (ints .u8 32 (KF)) 34)) (w3.heap.size + 1) = some (.cells (ints .u8 32 (KF)) 34) := objAt_alloc_at _ _ _ (by simp)
    replace HR : Hid (RdAt ((w3.alloc (.cells #[.string S2, .int .i64 E2] 27)).alloc (.cells (ints .u8 32 (KF)) 34)) g S E) := HR.out.later (Grew.alloc (Grew.alloc (Grew.refl _) _) _)
    replace fd := keep_alloc (.cells (ints .u8 32 (KF)) 34) (keep_alloc (.cells #[.string S2, .int .i64 E2] 27) fd)
    replace fa := keep_alloc (.cells (ints .u8 32 (KF)) 34) (keep_alloc (.cells #[.string S2, .int .i64 E2] 27) fa)
    replace hG := Grew.alloc (Grew.alloc hG (.cells #[.string S2, .int .i64 E2] 27)) (.cells (ints .u8 32 (KF)) 34)
    have hng : w3.heap.size ≠ g := by omega
    have hkg : w3.heap.size + 1 ≠ g := by omega
    clear lfd lfa lg
    generalize (w3.alloc (.cells #[.string S2, .int .i64 E2] 27)).alloc (.cells (ints .u8 32 (KF)) 34) = w4 at *
    generalize w3.heap.size + 1 = gk at *
    generalize w3.heap.size = gn at *
    clear cT
    apply cut_w (fun w9 => RdAt w9 g S2 E2 ∧ objAt w9 gd = some (.cells #[.string (S), .int .i64 (E)] 27) ∧ objAt w9 gn = some (.cells #[.string S2, .int .i64 E2] 27) ∧ Below w.heap.size w w9)
    ·intro cont
     refine wp_region_any (by kernel_rfl) ?_
     rw [show ({ w4 with drawn := w4.drawn + 1 } : World) = more w4 ⟨w4.drawn + 1, #[]⟩ from by simp [more]]
     generalize (⟨w4.drawn + 1, #[]⟩ : More) = m8
     replace HR : Hid (RdAt (more w4 m8) g S E) := HR.out.later (below_more w4 m8)
     replace fd := keep_more m8 fd
     replace fn := keep_more m8 fn
     replace fk := keep_more m8 fk
     replace hG := Grew.more hG m8
     have lfk := lt_of_objAt fk
     refine tail_two (i := 0) (j := 2) (fuel := 3) (by kernel_rfl) rfl rfl ?_ ?_
     ·intro K hK
      go_simp
      refine hK _ _ ?_
      clear hK K
      refine tail_two (i := 1) (j := 2) (fuel := 2) (by kernel_rfl) rfl rfl ?_ ?_
      ·intro K hK
       go_simp
       refine (cN _ HR.out).mono ?_
       rintro e9 w9 ⟨rfl, HR9, HO9⟩
       clear lfk
       replace fd := HO9.keep fd hgd
       replace fn := HO9.keep fn hng
       replace fk := HO9.keep fk hkg
       replace hG := HO9.below hG hgl
       have lfk := lt_of_objAt fk
       replace HR9 := hid1 HR9
       clear HO9
       refine hK _ _ ?_
       clear hK K
       refine tail_one (i := 2) (fuel := 1) (by kernel_rfl) rfl ?_
       intro K hK
       go_simp
       refine hK _ _ ?_
       clear hK K
       refine tail_one (i := 3) (fuel := 0) (by kernel_rfl) rfl ?_
       intro K hK
       go_simp
       refine hK _ _ ?_
       clear hK K
       refine wpAny_done (by kernel_rfl) ?_ _
       exact cont _ ⟨HR9.out, fd, fn, hG⟩
      ·intro K hK
       go_simp
       refine hK _ _ ?_
       clear hK K
       refine tail_one (i := 1) (fuel := 1) (by kernel_rfl) rfl ?_
       intro K hK
       go_simp
       refine (cN _ HR.out).mono ?_
       rintro e9 w9 ⟨rfl, HR9, HO9⟩
       clear lfk
       replace fd := HO9.keep fd hgd
       replace fn := HO9.keep fn hng
       replace fk := HO9.keep fk hkg
       replace hG := HO9.below hG hgl
       have lfk := lt_of_objAt fk
       replace HR9 := hid1 HR9
       clear HO9
       refine hK _ _ ?_
       clear hK K
       refine tail_one (i := 3) (fuel := 0) (by kernel_rfl) rfl ?_
       intro K hK
       go_simp
       refine hK _ _ ?_
       clear hK K
       refine wpAny_done (by kernel_rfl) ?_ _
       exact cont _ ⟨HR9.out, fd, fn, hG⟩
     ·intro K hK
      go_simp
      refine hK _ _ ?_
      clear hK K
      refine tail_one (i := 0) (fuel := 2) (by kernel_rfl) rfl ?_
      intro K hK
      go_simp
      refine hK _ _ ?_
      clear hK K
      refine tail_one (i := 1) (fuel := 1) (by kernel_rfl) rfl ?_
      intro K hK
      go_simp
      refine (cN _ HR.out).mono ?_
      rintro e9 w9 ⟨rfl, HR9, HO9⟩
      clear lfk
      replace fd := HO9.keep fd hgd
      replace fn := HO9.keep fn hng
      replace fk := HO9.keep fk hkg
      replace hG := HO9.below hG hgl
      have lfk := lt_of_objAt fk
      replace HR9 := hid1 HR9
      clear HO9
      refine hK _ _ ?_
      clear hK K
      refine tail_one (i := 3) (fuel := 0) (by kernel_rfl) rfl ?_
      intro K hK
      go_simp
      refine hK _ _ ?_
      clear hK K
      refine wpAny_done (by kernel_rfl) ?_ _
      exact cont _ ⟨HR9.out, fd, fn, hG⟩
    clear fd fn fk hG HR fa
    rintro w4 ⟨HR2, fd, fn, hG⟩
    replace HR2 : Hid (RdAt w4 g S2 E2) := HR2
    have lfn := lt_of_objAt fn
    have hgx := lt_of_objAt fd
    go_wp2_with fail
    clear hgx
    replace HR : Hid (RdAt (w4.setRow gd (#[.string S2, .int .i64 E2])) g S2 E2) := HR2.out.put fd (by decide) (fun e => hgd e.symm) _
    replace hG := Grew.setRow hG gd (#[.string S2, .int .i64 E2]) hgdl
    replace fd := keep_row (#[.string S2, .int .i64 E2]) fd
    generalize w4.setRow gd (#[.string S2, .int .i64 E2]) = w5 at *
    clear fn lfn HR2
   case' gc =>
    have cT := fun W => rSeveral_any S E zk W (by omega)
    have cN := fun (W : World) (h : RdAt W g S E) => keys_st zk h (by omega)
    have hS2 : (tkS S E (ksN S zk)).size ≤ 2000 := Nat.le_trans (tkS_le _ _ _) hS
    have hE2 := tkE_bd S E (ksN S zk) hE0
    have hm1 : (tkT S E (ksN S zk)).size / 32 ≤ 1000 := by
     have := tkT_size S E (ksN S zk)
     unfold ksN at this ⊢
     omega
    generalize (tkT S E (ksN S zk)).size / 32 = m at *
    generalize (fun i j => byteAt (tkT S E (ksN S zk)) (32 * i + j)) = KF at *
    generalize tkS S E (ksN S zk) = S2 at *
    generalize tkE S E (ksN S zk) = E2 at *
    go_wp2_with fail
    clear hl HR fd hG lfd lg
    replace HR := HR1
    replace fd := fd1
    replace hG := hG1
    clear HR1 fd1 hG1
    generalize wr.alloc (.cells #[.int .u8 dk, .int .i64 zk, .int .u8 xk] 29) = w2 at *
    generalize wr.heap.size = ga at *
    have lfd := lt_of_objAt fd
    have lfa := lt_of_objAt fa
    have lg := HR.out.lt
    refine (cT _).mono ?_
    rintro e w3 ⟨ob, cb, rfl, hK, hb⟩
    replace hK : Hid (K32At w3 ob m KF) := hK
    replace HR : Hid (RdAt _ g S E) := HR.out.later hb
    replace fd := keep_below hb fd
    replace fa := keep_below hb fa
    replace hG := Grew.trans hG hb
    clear hb lfd lfa lg
    have lfd := lt_of_objAt fd
    have lfa := lt_of_objAt fa
    have lg := HR.out.lt
    go_wp2_with fail
    have fn : objAt (w3.alloc (.cells #[.string S2, .int .i64 E2] 27)) w3.heap.size = some (.cells #[.string S2, .int .i64 E2] 27) := objAt_alloc_at _ _ _ rfl
    replace HR : Hid (RdAt (w3.alloc (.cells #[.string S2, .int .i64 E2] 27)) g S E) := HR.out.later (Grew.alloc (Grew.refl _) _)
    replace hK : Hid (K32At (w3.alloc (.cells #[.string S2, .int .i64 E2] 27)) ob m KF) := hK.out.later (Grew.alloc (Grew.refl _) _)
    replace fd := keep_alloc (.cells #[.string S2, .int .i64 E2] 27) fd
    replace fa := keep_alloc (.cells #[.string S2, .int .i64 E2] 27) fa
    replace hG := Grew.alloc hG (.cells #[.string S2, .int .i64 E2] 27)
    have hng : w3.heap.size ≠ g := by omega
    have hnd : w3.heap.size ≠ gd := by omega
    clear lfd lfa lg
    generalize w3.alloc (.cells #[.string S2, .int .i64 E2] 27) = w4 at *
    generalize w3.heap.size = gn at *
    refine (cN _ HR.out).mono ?_
    rintro e w4 ⟨oc, cc, rfl, hK2, HR2, HO⟩
    replace HR2 : Hid (RdAt _ g S2 E2) := HR2
    replace hK : Hid (K32At w4 ob m KF) := HO.keys HR.out hK.out
    replace hK2 : Hid (K32At w4 oc m KF) := hK2
    replace fd := HO.keep fd hgd
    replace fa := HO.keep fa hag
    replace fn := HO.keep fn hng
    replace hG := HO.below hG hgl
    clear HO HR cT cN
    have lfn := lt_of_objAt fn
    go_wp2_with fail
    refine (same12_any _ _ _ _ _ KF _ hm1 hK2.out hK.out).mono ?_
    rintro e w4 ⟨rfl, hb⟩
    replace HR2 : Hid (RdAt _ g S2 E2) := HR2.out.later hb
    replace fd := keep_below hb fd
    replace fn := keep_below hb fn
    replace hG := Grew.trans hG hb
    clear hb hK hK2 fa lfn
    have lfn := lt_of_objAt fn
    have hgx := lt_of_objAt fd
    go_wp2_with fail
    clear hgx
    replace HR : Hid (RdAt (w4.setRow gd (#[.string S2, .int .i64 E2])) g S2 E2) := HR2.out.put fd (by decide) (fun e => hgd e.symm) _
    replace hG := Grew.setRow hG gd (#[.string S2, .int .i64 E2]) hgdl
    replace fd := keep_row (#[.string S2, .int .i64 E2]) fd
    generalize w4.setRow gd (#[.string S2, .int .i64 E2]) = w5 at *
    clear fn lfn hng hnd HR2
   case' gd =>
    obtain ⟨ev, hev⟩ : ∃ ev, xk.tmod 23 = ev := ⟨_, rfl⟩
    have hev2 : 0 ≤ ev ∧ ev ≤ 22 := by
     rw [← hev, Int.tmod_eq_emod_of_nonneg hx0]
     omega
    have hw8 : IntKind.u8.wrap ev = ev := by rw [IntKind.wrap_u8]; omega
    have hw9 : IntKind.i64.wrap ev = ev := wrap_small (by omega) (by omega)
    refine by_two (ev = 0) ?gd0 ?gd1
   case' gd0 =>
    intro hz
    subst hz
    go_wp2_with fail
    clear hl HR fd hG lfd lg
    replace HR := HR1
    replace fd := fd1
    replace hG := hG1
    clear HR1 fd1 hG1
    generalize wr.alloc (.cells #[.int .u8 dk, .int .i64 zk, .int .u8 xk] 29) = w2 at *
    generalize wr.heap.size = ga at *
    have lfd := lt_of_objAt fd
    have lfa := lt_of_objAt fa
    have lg := HR.out.lt
    refine (fail_st .nilIface HR.out (.inl ⟨rfl, rfl⟩)).mono ?_
    rintro e w4 ⟨rfl, HR2, HO⟩
    replace HR2 : Hid (RdAt _ g S (if E = 0 then 0 else E)) := HR2
    replace fd := HO.keep fd hgd
    replace fa := HO.keep fa hag
    replace hG := HO.below hG hgl
    clear HO HR lfd lfa lg
    refine by_two (E = 0) ?gd00 ?gd01
   case' gd00 =>
    intro h0
    subst h0
    rw [if_pos rfl] at HR2
    have hgx := lt_of_objAt fd
    have lfa := lt_of_objAt fa
    go_wp2_with fail
    clear hgx lfa fa
    replace HR2 : Hid (RdAt (w4.setRow gd (#[.string S, .int .i64 0])) g S 0) := HR2.out.put fd (by decide) (fun e => hgd e.symm) _
    replace hG := Grew.setRow hG gd (#[.string S, .int .i64 0]) hgdl
    replace fd := keep_row (#[.string S, .int .i64 0]) fd
    generalize w4.setRow gd (#[.string S, .int .i64 0]) = w5 at *
    obtain ⟨S2, E2, hS2, hE2, HR9, fd9⟩ : ∃ S2 E2, ByteArray.size S2 ≤ 2000 ∧ (0 ≤ E2 ∧ E2 ≤ 22) ∧ Hid (RdAt w5 g S2 E2) ∧ objAt w5 gd = some (.cells #[.string (S2), .int .i64 (E2)] 27) := ⟨_, _, hS, by omega, HR2, fd⟩
    clear HR2 fd
    have HR := HR9
    have fd := fd9
    clear HR9 fd9
   case' gd01 =>
    intro h0
    rw [if_neg h0] at HR2
    have hgx := lt_of_objAt fd
    have lfa := lt_of_objAt fa
    go_wp2_with fail
    clear hgx lfa fa
    obtain ⟨w5, rfl⟩ : ∃ x, x = w4 := ⟨_, rfl⟩
    obtain ⟨S2, E2, hS2, hE2, HR9, fd9⟩ : ∃ S2 E2, ByteArray.size S2 ≤ 2000 ∧ (0 ≤ E2 ∧ E2 ≤ 22) ∧ Hid (RdAt w5 g S2 E2) ∧ objAt w5 gd = some (.cells #[.string (S2), .int .i64 (E2)] 27) := ⟨_, _, hS, hE0, HR2, fd⟩
    clear HR2 fd
    have HR := HR9
    have fd := fd9
    clear HR9 fd9
   case' gd1 =>
    intro hz
    go_wp2_with fail
    clear hl HR fd hG lfd lg
    replace HR := HR1
    replace fd := fd1
    replace hG := hG1
    clear HR1 fd1 hG1
    generalize wr.alloc (.cells #[.int .u8 dk, .int .i64 zk, .int .u8 xk] 29) = w2 at *
    generalize wr.heap.size = ga at *
    have lfd := lt_of_objAt fd
    have lfa := lt_of_objAt fa
    have lg := HR.out.lt
    refine (wrap_any _ _ _ _).mono ?_
    rintro e w3 ⟨rfl, rfl⟩
    have hv := hid1 (erv_wrap (w := w2) ⟨#[120]⟩ ev hz)
    replace HR : Hid (RdAt (w2.alloc (.cells #[.string ⟨#[120]⟩, .iface 49 (.int .i64 ev)] 129)) g S E) := HR.out.later (Grew.alloc (Grew.refl _) _)
    replace fd := keep_alloc (.cells #[.string ⟨#[120]⟩, .iface 49 (.int .i64 ev)] 129) fd
    replace fa := keep_alloc (.cells #[.string ⟨#[120]⟩, .iface 49 (.int .i64 ev)] 129) fa
    replace hG := Grew.alloc hG (.cells #[.string ⟨#[120]⟩, .iface 49 (.int .i64 ev)] 129)
    clear lfd lfa lg
    generalize hw3 : w2.alloc (.cells #[.string ⟨#[120]⟩, .iface 49 (.int .i64 ev)] 129) = w3 at *
    generalize (Value.iface 127 (.pointer (some ⟨w2.heap.size, 0, none⟩))) = fv at *
    go_wp2_with fail
    refine (fail_st _ HR.out hv.out).mono ?_
    rintro e w4 ⟨rfl, HR2, HO⟩
    replace HR2 : Hid (RdAt _ g S (if E = 0 then ev else E)) := HR2
    replace fd := HO.keep fd hgd
    replace fa := HO.keep fa hag
    replace hG := HO.below hG hgl
    clear HO HR hv hw3
    refine by_two (E = 0) ?gd10 ?gd11
   case' gd10 =>
    intro h0
    subst h0
    rw [if_pos rfl] at HR2
    have hgx := lt_of_objAt fd
    have lfa := lt_of_objAt fa
    go_wp2_with fail
    clear hgx lfa fa
    replace HR2 : Hid (RdAt (w4.setRow gd (#[.string S, .int .i64 ev])) g S ev) := HR2.out.put fd (by decide) (fun e => hgd e.symm) _
    replace hG := Grew.setRow hG gd (#[.string S, .int .i64 ev]) hgdl
    replace fd := keep_row (#[.string S, .int .i64 ev]) fd
    generalize w4.setRow gd (#[.string S, .int .i64 ev]) = w5 at *
    obtain ⟨S2, E2, hS2, hE2, HR9, fd9⟩ : ∃ S2 E2, ByteArray.size S2 ≤ 2000 ∧ (0 ≤ E2 ∧ E2 ≤ 22) ∧ Hid (RdAt w5 g S2 E2) ∧ objAt w5 gd = some (.cells #[.string (S2), .int .i64 (E2)] 27) := ⟨_, _, hS, by omega, HR2, fd⟩
    clear HR2 fd
    have HR := HR9
    have fd := fd9
    clear HR9 fd9
   case' gd11 =>
    intro h0
    rw [if_neg h0] at HR2
    have hgx := lt_of_objAt fd
    have lfa := lt_of_objAt fa
    go_wp2_with fail
    clear hgx lfa fa
    obtain ⟨w5, rfl⟩ : ∃ x, x = w4 := ⟨_, rfl⟩
    obtain ⟨S2, E2, hS2, hE2, HR9, fd9⟩ : ∃ S2 E2, ByteArray.size S2 ≤ 2000 ∧ (0 ≤ E2 ∧ E2 ≤ 22) ∧ Hid (RdAt w5 g S2 E2) ∧ objAt w5 gd = some (.cells #[.string (S2), .int .i64 (E2)] 27) := ⟨_, _, hS, hE0, HR2, fd⟩
    clear HR2 fd
    have HR := HR9
    have fd := fd9
    clear HR9 fd9
   all_goals
    have lfd := lt_of_objAt fd
    have lg := HR.out.lt
    have cL := fun (W' : World) (hb : Below w5.heap.size w5 W') => Calls.weak (left_st (HR.out.later hb))
    refine wp_relv (fun k => k == 8) (fun k => match k with | 8 => fun _ => True | _ => fun _ => True) (fun k => match k with | 8 => fun u w => ErV w u (enE S2 E2) | _ => fun _ _ => True) (fun k => match k with | 8 => .nilIface | _ => undef) (fun i hi => ?_) (by kernel_rfl) (by kernel_rfl) ?_
    ·simp only [Bool.or_eq_true, beq_iff_eq] at hi
     subst hi
     trivial
    iterate 8 (first | refine exv_skip rfl ?_ | (refine exv_call rfl ?_; apply Exists.intro))
    refine exv_call rfl ⟨undef, ?_⟩
    iterate 5 (first | refine exv_skip rfl ?_ | (refine exv_call rfl ?_; apply Exists.intro))
    refine exv_nil ?_
    intro γ gv hsv hinj hbase
    obtain ⟨u1, e1⟩ : ∃ u1, gv 8 = u1 := ⟨_, rfl⟩
    (repeat (first | (refine rel_quiet rfl ?_; ((first | go_big_quiet_skip | (go_big_quiet_want; go_big_quiet_op; go_big_quiet_on)); refine wpQuiet_nil ?_)) | ((first | refine rel_skip_some rfl (fun _ => rfl) ?_ | (apply rel_fact; (focus rfl); (focus rfl); (focus rfl); (focus (intro W hC hF; (have hbW : Below w5.heap.size w5 W := by obtain ⟨mm, rfl⟩ := hC; exact below_more w5 mm); go_big_quiet_want; go_big_quiet_op; (first | go_big_quiet_on | (apply Exists.intro; refine ⟨fun _ => ?_, ?_⟩; (focus ((with_reducible exact Calls.of_more (cL _ (Grew.more hbW _))))); go_big_quiet_on)); exact wpQuiet_nil rfl)); (focus (first | exact fun _ => ⟨rfl, rfl⟩ | exact fun h => absurd h (by decide))))); ((first | go_big_quiet_skip | (go_big_quiet_want; go_big_quiet_op; go_big_quiet_on)); refine wpQuiet_nil ?_)) | refine rel_skip_none rfl (fun _ => rfl) ?_))
    refine rel_callv #[.pointer (some ⟨g, 0, none⟩)] (enters_of Tryz.func23 (by kernel_rfl) rfl) rfl e1 rfl rfl rfl rfl (fits_nil (stab_erv _ _)) (by first | kernel_rfl | simp [go_sem]) ?_ ?_
    ·intro W hC hF
     obtain ⟨mm, rfl⟩ := hC
     refine (end_st (HR.out.later (below_more w5 mm))).mono ?_
     rintro e w9 ⟨u, rfl, hu, hb9⟩
     exact ⟨_, rfl, trivial, hu, hb9⟩
    ((first | go_big_quiet_skip | (go_big_quiet_want; go_big_quiet_op; go_big_quiet_on)); refine wpQuiet_nil ?_)
    (repeat (first | (refine rel_quiet rfl ?_; ((first | go_big_quiet_skip | (go_big_quiet_want; go_big_quiet_op; go_big_quiet_on)); refine wpQuiet_nil ?_)) | ((first | refine rel_skip_some rfl (fun _ => rfl) ?_ | (apply rel_fact; (focus rfl); (focus rfl); (focus rfl); (focus (intro W hC hF; (have hbW : Below w5.heap.size w5 W := by obtain ⟨mm, rfl⟩ := hC; exact below_more w5 mm); (have hGW : Below w.heap.size w W := Grew.trans hG hbW); (try (have hE0 : ErV W u1 (enE S2 E2) := known hF (List.mem_cons_self ..) (by decide +kernel))); go_big_quiet_want; go_big_quiet_op; (first | go_big_quiet_on | (apply Exists.intro; refine ⟨fun _ => ?_, ?_⟩; (focus (first | (with_reducible exact Calls.of_more (rEnd_any _ _ _)) | (exact Calls.of_more (code_st u1 (HE.out.later (Grew.more hGW _)) (hE0.later (below_more W _)))))); go_big_quiet_on)); exact wpQuiet_nil rfl)); (focus (first | exact fun _ => ⟨rfl, rfl⟩ | exact fun h => absurd h (by decide))))); ((first | go_big_quiet_skip | (go_big_quiet_want; go_big_quiet_op; go_big_quiet_on)); refine wpQuiet_nil ?_)) | refine rel_skip_none rfl (fun _ => rfl) ?_))
    (refine rel_nil ?_; rintro _ ⟨mq, rfl⟩ hF; simp only [List.forall_mem_cons] at hF; obtain ⟨-, -⟩ := hF)
    replace hG := Grew.more hG mq
    replace HR : Hid (RdAt (more w5 mq) g S2 E2) := HR.out.later (below_more w5 mq)
    replace fd := keep_more mq fd
    clear cL lfd lg hinj hbase hsv e1
    generalize more w5 mq = w6 at *
    go_wp2
    go_roundw
    case rel => first | exact ⟨k + 1, S2, E2, by omega, by go_num, hS2, hE2, hG, HR, fd⟩ | ((repeat' apply Exists.intro) <;> first | exact ⟨⟨k + 1, S2, E2, by omega, by go_num, hS2, hE2, hG, HR, fd⟩, rfl⟩ | exact undef)
    case measure => (simp [intOf]; omega)
  ·obtain rfl : k = n := by omega
   have hi1 : ¬ ((k : Int) < (k : Int)) := by omega
   go_wp2
   go_ret
   exact ⟨rfl, hG⟩
end Go.Proofs.YtncjdlahiohlbaaGreatDoor
namespace Go.Proofs.YtncjdlahiohlbaaGreatDoor
open Go.ChangeShapes Go.WideShapes Go.ChangeAt Go.RowKit
open Go.ChangeMaps (open_string shut_string)
set_option linter.unusedVariables false
set_option linter.unusedSimpArgs false
theorem codecReads_lifted (os : Os) (started : os.Started) (H : Type) (enc : TypeId × Value → H) :
  ReturnsInHanded {} Tryz.checked os 3 .any (fun w args => (Rows.codecReadsSpec.pre enc Tryz.prog Tryz.f3 [] false w args ∧ laidMetH Tryz.prog Rows.codecReadsRow.laid w) ∧ sizedMet enc Tryz.prog Tryz.f3 (OpenSpec.ofChange Rows.codecReadsSpec) false w args)
   (Rows.codecReadsSpec.post enc Tryz.prog Tryz.f3 false true false false) := by
 refine returnsInHanded_of_change_and (C := Tryz.checked) (X := fun w _ => laidMetH Tryz.prog Rows.codecReadsRow.laid w) (fun _ _ _ hh h => h.of_heap hh) own started (by kernel_rfl) Tryz.func3
  (ChangeSpec.witness_shaped (enc := enc) (C := Tryz.checked) (os := os) (X := fun w _ => laidMetH Tryz.prog Rows.codecReadsRow.laid w) false (hwL os) #[.string ⟨#[]⟩, .slice none 0 0] 8 (hwL_os os)
   (World.shaped_of_ZipB (by kernel_rfl) (by kernel_rfl)) (by kernel_rfl) (by kernel_rfl) (by kernel_rfl)
   (hwL_met os _)) ?_
 intro W base args ds gs before hval0 hW _ _ hL _
 have hval : ∀ (j : Nat) t v, Tryz.f3.params[j]? = some t → args[j]? = some v → Value.okWide Tryz.prog W .any base t v := hval0
 have hW' := hW
 obtain ⟨p, q, hA0, hV, rfl, hfz, hnd⟩ := hW
 have hA : DataW.TrodAll enc Tryz.prog W 0 (fun _ => true) true Tryz.f3.params.toList args.toList ds p := hA0
 rw [Tryz.params3] at hA hval
 obtain ⟨v0, vs0, d0, ds0, p0, q0, hargs, rfl, rfl, h0, r0⟩ := trodAll_cons hA
 obtain ⟨v1, vs1, d1, ds1, p1, q1, rfl, rfl, rfl, h1, r1⟩ := trodAll_cons r0
 obtain ⟨rfl, rfl, rfl⟩ := trodAll_nil r1
 obtain rfl : args = #[v0, v1] := by cases args; simp_all
 obtain ⟨rfl, rfl⟩ := trodVars_none hV
 have k0 := h0
 have lt0 : ∀ x ∈ p0, x.block < W.heap.size := by obtain ⟨m, hm⟩ := k0; exact DataW.trod_lt m _ _ _ hm
 have k1 := h1
 have lt1 : ∀ x ∈ p1, x.block < W.heap.size := by obtain ⟨m, hm⟩ := k1; exact DataW.trod_lt m _ _ _ hm
 obtain ⟨a0, rfl, _, _, w0⟩ := open_string Tryz.underlying9 (hval 0 9 v0 rfl rfl) h0
 obtain ⟨oa1, n1, c1, D1, Z1, X1, rfl, m1, b1, w1⟩ := open_acts (hval 1 22 v1 rfl rfl) h1
 clear hA0 hval0
 obtain ⟨hT, hE⟩ := laid3_of hL
 refine (codecReads_any (fun W h hE => awake16_any (fun W h hE => Awake15_any (fun W h hE => awake15_any (fun W h => Awake14_any (fun W h => awake14_any (fun W h => Awake13_any (fun W h => awake13_any (fun W h => Awake12_any aw12 W h) W h) W h) W h) W h) W h hE) W h hE) W h hE) a0 oa1 n1 c1 D1 Z1 X1 W w1 b1 hT hE).mono fun e W' ⟨he, bel⟩ => ?_
 subst he
 exact ⟨_, rfl, _, _, _, [], _, [], hW', trodAll_mk1 (shut_bool Tryz.underlying4 _), (trodAll_cons_mk (Below.trod laidOut (by kernel_rfl) (of_decide_eq_true (by kernel_rfl)) k0 bel lt0) (trodAll_cons_mk (Below.trod laidOut (by kernel_rfl) (of_decide_eq_true (by kernel_rfl)) k1 bel lt1) trodAll_mk0)), rfl, bel.frame _, fun h => by cases h⟩
theorem codecReads_closed : joinedFacts Tryz.prog 3 Tryz.f3 (Rows.codecReadsSpec) Rows.codecReadsRow = true := by
 first
 | (unfold joinedFacts; rw [may_enter, make_is, lifts_is]; first | (rw [norec 3 (by decide)]; kernel_rfl) | kernel_rfl)
 | kernel_rfl
theorem codecReads_said : Rows.CodecReadsSaid :=
 OpenClaim.holds_of_wide 3 Tryz.f3 rfl rfl rfl rfl rfl rfl rfl ⟨rfl, rfl, rfl, rfl, rfl⟩ rfl rfl rfl rfl rfl (by kernel_rfl) Tryz.func3 (by first | exact codecReads_closed | kernel_rfl)
  (of_decide_eq_true (by kernel_rfl)) (by unfold Func.isWrapper; first | (rw [if_pos (by decide +kernel)]; kernel_rfl) | (rw [if_neg (by decide +kernel)]; exact ⟨rfl, rfl⟩))
  (fun os started H enc _ => codecReads_lifted os started H enc)
theorem codecReads_card : Rows.CodecReadsCardSaid :=
 Claim7.holds_tied_plain_at .later [] _ _ _ _ codecReads_said (fun _ h => by cases h) (by kernel_rfl) (fun _ h => by cases h) codecReads_row_tie rfl ⟨rfl, rfl⟩ (by kernel_rfl) rfl
  (fun f fn hf hfn => by
   obtain rfl : f = 3 := Option.some.inj ((show Tryz.prog.funcNamed "sapwood/sapwoodlaw16.CodecReads" = some 3 by kernel_rfl).symm.trans hf) |>.symm
   obtain rfl : fn = Tryz.f3 := (Option.some.inj (Tryz.func3.symm.trans hfn)).symm
   exact ⟨by kernel_rfl, fun j t ht => by
    rw [Tryz.params3] at ht
    have hm : t ∈ [9, 22] := by simpa using Array.mem_of_getElem? ht
    have hall : ([9, 22].all fun u => !Tryz.prog.wantsStandIn u) = true := by kernel_rfl
    exact (show Tryz.prog.wantsStandIn t = false by simpa using List.all_eq_true.1 hall t hm)⟩)
  (by kernel_rfl)
end Go.Proofs.YtncjdlahiohlbaaGreatDoor
