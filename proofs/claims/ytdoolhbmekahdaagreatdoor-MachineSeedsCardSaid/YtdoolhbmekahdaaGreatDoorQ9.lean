/- Q9 -/
import Derived.Test.YtdoolhbmekahdaaGreatDoorR9
import Derived.Test.YtdoolhbmekahdaaGreatDoorMa
import Derived.Test.YtdoolhbmekahdaaGreatDoorBu
set_option maxRecDepth 100000
set_option maxHeartbeats 4000000
namespace Go.Proofs.YtdoolhbmekahdaaGreatDoor
open Go.RowKit
set_option linter.unusedVariables false
set_option linter.unusedSimpArgs false
attribute [local irreducible] strOf shaF zerosB padB fullB hashT
attribute [local irreducible] macF
theorem extract_any (salt secret : ByteArray) (w : World) (h1 : salt.size ≤ 100000) (h2 : secret.size ≤ 100000) (hT : Tabs w) :
  Calls Tryz.prog 17 #[.string salt, .string secret] w fun e w' => e = .returned (.agg (ints .u8 32 (macF salt secret))) ∧ Below w.heap.size w w' := by
 have hTT : Hid (Tabs w) := hT
 clear hT
 have hm := fun g W => mac_one salt secret g W (by omega) (by omega)
 generalize macF salt secret = M at *
 clear h1 h2
 have hG := Grew.refl w
 have fr : True := trivial
 have fx : True := trivial
 go_enter Tryz.func17, Tryz.ntmps17
 go_wp2_with fail
 replace fr : objAt ((w.alloc (.cells (ints .u8 32 (nought)) 27)).alloc (.cells #[.string secret] 9)) (w.heap.size) = some (.cells (ints .u8 32 (nought)) 27) := by exact keep_auto
 replace fx : objAt ((w.alloc (.cells (ints .u8 32 (nought)) 27)).alloc (.cells #[.string secret] 9)) (w.heap.size + 1) = some (.cells #[.string secret] 9) := by exact keep_auto
 replace hG : Below w.heap.size w ((w.alloc (.cells (ints .u8 32 (nought)) 27)).alloc (.cells #[.string secret] 9)) := by exact grew_auto
 generalize (w.alloc (.cells (ints .u8 32 (nought)) 27)).alloc (.cells #[.string secret] 9) = w1 at *
 have lfr := lt_of_objAt fr
 have lfx := lt_of_objAt fx
 go_wp2_with fail
 (refine (hm _ _ (strs_one fx) (hTT.out.later hG)).mono ?_; rintro e w2 ⟨rfl, hb⟩; replace fr : objAt w2 (w.heap.size) = some (.cells (ints .u8 32 (nought)) 27) := keep_below hb (by exact keep_auto); have lfr := lt_of_objAt fr; replace fx : objAt w2 (w.heap.size + 1) = some (.cells #[.string secret] 9) := keep_below hb (by exact keep_auto); have lfx := lt_of_objAt fx; replace hG : Below w.heap.size w w2 := Grew.trans (by exact grew_auto) hb; clear hb)
 go_wp2
 refine ret_row rfl _ 27 _ (0, 0) _ rfl (keep_row _ fr) Tryz.underlying27 rfl (by rw [ints_size]; kernel_rfl) rfl ⟨rfl, by exact grew_auto⟩
theorem expand_any (k : Nat → Int) (info : ByteArray) (n : Int) (w : World) (hi : info.size ≤ 100000) (hT : Tabs w) :
  Calls Tryz.prog 30 #[.agg (ints .u8 32 k), .string info, .int .i64 n] w fun e w' => e = .returned (.tuple #[.string (if 0 ≤ n ∧ n ≤ 8160 then strOf n.toNat (strmF (strOf 32 k) info) else ByteArray.empty), .bool (decide (0 ≤ n ∧ n ≤ 8160))]) ∧ Below w.heap.size w w' := by
 by_cases hn : 0 ≤ n ∧ n ≤ 8160
 case neg =>
  rw [if_neg hn, decide_eq_false hn]
  by_cases h0 : 0 ≤ n
  ·have h1 : 8160 < n := by omega
   have hG := Grew.refl w
   go_enter Tryz.func30, Tryz.ntmps30
   go_wp2
   go_ret2
   exact ⟨rfl, by exact grew_auto⟩
  ·have h1 : n < 0 := by omega
   have hG := Grew.refl w
   go_enter Tryz.func30, Tryz.ntmps30
   go_wp2
   go_ret2
   exact ⟨rfl, by exact grew_auto⟩
 have hTT : Hid (Tabs w) := hT
 clear hT
 rw [if_pos hn, decide_eq_true hn]
 obtain ⟨hn0, hn1⟩ := hn
 obtain ⟨N, rfl⟩ := Int.eq_ofNat_of_zero_le hn0
 have eN : ((N : Int)).toNat = N := by omega
 rw [eN]
 have hK : (strOf 32 k).size = 32 := strOf_size _ _
 have hKK : Hid (strOf 32 k = strOf 32 k) := rfl
 have hS0 : Hid (strOf (32 * 0) (strmF (strOf 32 k) info) = ByteArray.empty) := strOf_zero _
 have hSn : Hid (∀ m, strOf (32 * m) (strmF (strOf 32 k) info) ++ tB (strOf 32 k) info (m + 1) = strOf (32 * (m + 1)) (strmF (strOf 32 k) info)) := strm_next _ _
 have hSz : Hid (∀ m, (strOf m (strmF (strOf 32 k) info)).size = m) := fun m => strOf_size _ _
 have hSf : Hid (∀ m, N ≤ m → (strOf m (strmF (strOf 32 k) info)).extract 0 N = strOf N (strmF (strOf 32 k) info)) := fun m h => strOf_first m N _ (strm_bytes _ _) h
 have hT0 : Hid (tB (strOf 32 k) info 0 = ByteArray.empty) := rfl
 have hTs : Hid (∀ m, (tB (strOf 32 k) info m).size ≤ 32) := tB_le _ _
 have hT1 : Hid (∀ m, (tB (strOf 32 k) info (m + 1)).size = 32) := tB_size _ _
 have hTm : Hid (∀ m, tB (strOf 32 k) info (m + 1) = strOf 32 (macF (strOf 32 k) (tB (strOf 32 k) info m ++ info ++ byteB (m + 1)))) := fun m => rfl
 generalize hst : strmF (strOf 32 k) info = st at *
 generalize htb : tB (strOf 32 k) info = tb at *
 obtain ⟨K, hKe⟩ : ∃ K, Hid (strOf 32 k = K) := ⟨_, rfl⟩
 rw [hKe.out] at hK hTm
 clear hst htb hn0 hKK
 have hG := Grew.refl w
 have fk : True := trivial
 have fb : True := trivial
 go_enter Tryz.func30, Tryz.ntmps30
 go_wp2_with fail
 replace fk : objAt ((w.alloc (.cells (ints .u8 32 (k)) 27)).alloc (.cells #[.pointer none, .slice none 0 0] 80)) (w.heap.size) = some (.cells (ints .u8 32 (k)) 27) := by exact keep_auto
 replace fb : objAt ((w.alloc (.cells (ints .u8 32 (k)) 27)).alloc (.cells #[.pointer none, .slice none 0 0] 80)) (w.heap.size + 1) = some (.cells #[.pointer none, .slice none 0 0] 80) := by exact keep_auto
 replace hG : Below w.heap.size w ((w.alloc (.cells (ints .u8 32 (k)) 27)).alloc (.cells #[.pointer none, .slice none 0 0] 80)) := by exact grew_auto
 generalize (w.alloc (.cells (ints .u8 32 (k)) 27)).alloc (.cells #[.pointer none, .slice none 0 0] 80) = w1 at *
 have lfk := lt_of_objAt fk
 have lfb := lt_of_objAt fb
 have hB : BldAt w1 (w.heap.size + 1) ByteArray.empty := bld_of fb
 have lgb : w.heap.size < w.heap.size + 1 := by omega
 have lwb : w.heap.size ≤ w.heap.size + 1 := by omega
 clear fb lfb
 go_loopw [9, 10, 11] (fun l i _ wr => ∃ m : Nat, 32 * m ≤ N + 31 ∧ i = .int .i64 ((m + 1 : Nat) : Int) ∧ l = .string (tb m) ∧ Below w.heap.size w wr ∧ objAt wr w.heap.size = some (.cells (ints .u8 32 (k)) 27) ∧ Hid (BldAt wr (w.heap.size + 1) (strOf (32 * m) st))) (fun _ i _ _ => N + 64 - 32 * (intOf i).toNat)
 case atStart => exact ⟨0, by omega, rfl, by rw [hT0.out]; rfl, hG, fk, by rw [hS0.out]; exact hB⟩
 case round =>
  clear hG fk lfk hB
  obtain ⟨m, hm, rfl, rfl, hG, fk, hB⟩ := hrel
  have lfk := lt_of_objAt fk
  have hsz := hSz.out (32 * m)
  have hsl : ((strOf (32 * m) st).size : Int) = 32 * (m : Int) := by rw [hsz]; omega
  by_cases hlt : 32 * m < N
  ·have hi0 : (32 : Int) * (m : Int) < (N : Int) := by omega
   have cM : ∀ (g : Nat) (W : World), StrsAt W (some ⟨g, 0, none⟩) 3 (threeS (tb m) info (byteB (m + 1))) → Tabs W → Calls Tryz.prog 31 #[.string K, .slice (some ⟨g, 0, none⟩) 3 3] W fun e w' => e = .returned (.agg (ints .u8 32 (macF K (tb m ++ info ++ byteB (m + 1))))) ∧ Below W.heap.size W w' := fun g W => mac_three K (tb m) info (byteB (m + 1)) g W (by omega) (by have := hTs.out m; rw [byteB_size]; omega)
   have hnx := hSn.out m
   have hTme := hTm.out m
   have hz1 := hT1.out m
   generalize macF K (tb m ++ info ++ byteB (m + 1)) = M at *
   obtain ⟨T2, hT2⟩ : ∃ T2, Hid (tb (m + 1) = T2) := ⟨_, rfl⟩
   rw [hT2.out] at hnx hTme hz1
   have hTM : Hid (strOf 32 M = T2) := hTme.symm
   generalize tb m = T1 at *
   obtain ⟨S2, hS2⟩ : ∃ S2, Hid (strOf (32 * (m + 1)) st = S2) := ⟨_, rfl⟩
   rw [hS2.out] at hnx
   have hNX : Hid (strOf (32 * m) st ++ T2 = S2) := hnx
   generalize strOf (32 * m) st = S1 at *
   have hck := fun q : More => run_str (P := Tryz.prog) (src := 36) (dst := 9) Tryz.underlying36 Tryz.underlying5 Tryz.underlying9 w.heap.size 32 32 32 k (more wr q) (keep_more q fk) (by omega)
   rw [hKe.out] at hck
   clear hS0 hSn hSz hSf hT0 hTs hT1 hTm hnx hTme
   go_wp2_with fail
   refine (bld_len hB.out).mono ?_
   rintro e W1 ⟨rfl, rfl⟩
   go_wp2_with fail
   (refine wp_rel (by kernel_rfl) (by kernel_rfl) ?_; (repeat (first | refine exv_skip rfl ?_ | (refine exv_call rfl ?_; apply Exists.intro))); refine exv_nil ?_; intro γ hinj hbase; (repeat (first | (refine rel_quiet rfl ?_; ((first | go_big_quiet_skip | (go_big_quiet_want; go_big_quiet_op; go_big_quiet_on)); refine wpQuiet_nil ?_)) | ((first | refine rel_skip_some rfl (fun _ => rfl) ?_ | ((try simp only [Nat.zero_add, Nat.reduceAdd]); apply rel_box alloc_cls; (focus rfl); (focus (first | exact cells_agg _ | exact cells_int _ _ | exact cells_bool _ | rfl)); (focus (exact by_fits))) | ((try simp only [Nat.zero_add, Nat.reduceAdd]); apply rel_alloc _ _ alloc_cls; (focus rfl); (focus (intro W; (first | exact zero_key _ | exact zero_elem _ | exact zero_num _ | exact zero_pair _ | exact zero_rnode _ | exact zero_kpair _))); (focus (first | exact cells_ints _ _ _ | exact cells_two _ _ | rfl)); (focus (exact by_fits))) | ((try simp only [Nat.zero_add, Nat.reduceAdd]); apply rel_slice alloc_cls; (focus rfl); (focus (intro W; simp only [List.map_toArray, List.map_cons, List.map_nil]; first | (with_reducible exact build1b _ W) | (with_reducible exact build3s _ _ _ W) | exact build1b _ W | exact build3s _ _ _ W)); (focus (exact by_fits))) | (apply rel_fact; (focus rfl); (focus rfl); (focus rfl); (focus (intro W hC hF; (have hGW : Below w.heap.size w W := (by obtain ⟨mm, rfl⟩ := hC; exact Grew.more hG mm); (try (have hcv := fun mm => conv_is (i := m + 1) (known hF (List.mem_cons_self ..) (by decide +kernel)) (by omega) mm)); (try (have hE : StrsAt W (some ⟨γ 8, 0, none⟩) 3 (threeS T1 info (byteB (m + 1))) := strs_three (known hF (List.mem_cons_self ..) (by decide +kernel))))); go_big_quiet_want; go_big_quiet_op; (first | go_big_quiet_on | (apply Exists.intro; refine ⟨fun _ => ?_, ?_⟩; (focus (first | (with_reducible exact Calls.of_more (cM _ _ (hE.later (below_more W _)) (hTT.out.later (Grew.trans hGW (below_more W _))))))); go_big_quiet_on)); exact wpQuiet_nil rfl)); (focus (first | exact fun _ => ⟨rfl, rfl⟩ | exact fun h => absurd h (by decide))))); ((first | go_big_quiet_skip | (go_big_quiet_want; go_big_quiet_op; go_big_quiet_on)); refine wpQuiet_nil ?_)) | refine rel_skip_none rfl (fun _ => rfl) ?_ | ((try simp only [Nat.zero_add, Nat.reduceAdd]); apply rel_store (setRow_cls (hbase _)); (focus rfl); (focus rfl); (focus rfl); (focus (first | exact cells_agg _ | exact cells_int _ _ | exact cells_bool _ | rfl)); rotate_left 3; (focus (exact by_mem)); rotate_right 3; (focus kernel_rfl); (focus (first | exact ints_size _ _ _ | rfl)); (focus (first | exact ints_ones _ _ _ | exact ones_two _ _ _ _ | kernel_rfl)); (focus (decide +kernel)); (focus (exact by_fits))))))
   (refine rel_nil ?_; rintro _ ⟨mq, rfl⟩ hF; simp only [List.forall_mem_cons] at hF; obtain ⟨f12, -⟩ := hF)
   have f12' : objAt (more W1 mq) (γ 10) = some (.cells (ints .u8 32 (M)) 27) := f12
   replace fk : objAt (more W1 mq) w.heap.size = some (.cells (ints .u8 32 (k)) 27) := keep_more _ fk
   replace hG : Below w.heap.size w (more W1 mq) := Grew.more hG _
   replace hB : Hid (BldAt (more W1 mq) (w.heap.size + 1) S1) := hB.out.later (below_more W1 _)
   clear hinj hbase hck f12 lfk
   generalize γ 10 = g12 at *
   generalize γ 8 = g9 at *
   generalize γ 6 = g7 at *
   generalize more W1 mq = w9 at *
   have hc := run_str (P := Tryz.prog) (src := 36) (dst := 9) Tryz.underlying36 Tryz.underlying5 Tryz.underlying9 g12 32 32 32 M w9 f12' (by omega)
   rw [hTM.out] at hc
   go_wp2_with fail
   (try rw [hc])
   go_wp2_with fail
   refine (bld_write T2 hB.out (by omega)).mono ?_
   rintro e W2 ⟨rfl, hB2, hb2⟩
   rw [hNX.out] at hB2
   replace fk : objAt W2 w.heap.size = some (.cells (ints .u8 32 (k)) 27) := (hb2.block _ lgb).trans fk
   replace hG : Below w.heap.size w W2 := hG.trans (hb2.mono lwb)
   clear hb2 f12' hc hB
   go_wp2
   go_roundw
   case rel => exact ⟨m + 1, by omega, by go_num, by rw [hT2.out], hG, fk, by rw [hS2.out]; exact hB2⟩
   case measure => simp [intOf]; omega
  ·have hge : N ≤ 32 * m := by omega
   have hi0 : ¬ ((32 : Int) * (m : Int) < (N : Int)) := by omega
   have hex := hSf.out (32 * m) hge
   have hle : (N : Int) ≤ 32 * (m : Int) := by omega
   have hN0 : (0 : Int) ≤ (N : Int) := by omega
   clear hSf hSz hSn hTm hTs hT1 hT0 hS0
   go_wp2_with fail
   refine (bld_len hB.out).mono ?_
   rintro e W1 ⟨rfl, rfl⟩
   go_wp2_with fail
   refine (bld_string hB.out).mono ?_
   rintro e W2 ⟨rfl, hb2⟩
   replace hG : Below w.heap.size w W2 := hG.trans (hb2.mono lwb)
   go_wp2
   go_ret2
   first | exact ⟨by rw [← hex]; rfl, hG⟩ | exact ⟨by rw [← hex], hG⟩
theorem expandC : ExpandC := fun k info n W hk hi hT => expand_any k info n W hi hT
theorem copyOf_key (O : Nat → Int) (hO : Bytes 32 O) (ty : TypeId) (g C : Nat) (w : World) (A : Nat → Int) (t : TypeId) (h : objAt w g = some (.cells (ints .u8 32 A) t (0, 0))) :
  copyOf Tryz.prog ty g 0 32 C (strOf 32 O) w (some (.cells (ints .u8 32 A) t (0, 0))) = .ok (.value (.int .i64 32)) (w.setRow g (ints .u8 32 O)) := by
 have hz : (strOf 32 O).size = 32 := strOf_size _ _
 unfold copyOf copyNext
 unfold objAt at h
 have hr := run_copy_text (P := Tryz.prog) w 36 9 ty 5 g 0 32 C 32 (strOf 32 O) _ t Tryz.underlying36 (by kernel_rfl) h (by rw [hz]; decide) (by rw [ints_size]; decide)
 have l2 : (List.map (fun b : UInt8 => Value.int .u8 b.toNat) (strOf 32 O).data.toList).length = 32 := by
  rw [List.length_map]
  exact hz
 have e : ((ints .u8 32 A).toList.take 0 ++ (List.map (fun b : UInt8 => Value.int .u8 b.toNat) (strOf 32 O).data.toList).take 32 ++ (ints .u8 32 A).toList.drop (0 + 32)).toArray = ints .u8 32 O := by
  have e3 : (ints .u8 32 A).toList.drop (0 + 32) = [] := List.drop_eq_nil_of_le (by rw [Array.length_toList, ints_size]; omega)
  rw [e3, List.take_zero, List.nil_append, List.append_nil, List.take_of_length_le (by omega)]
  apply Array.ext (by rw [ints_size]; simpa using l2)
  intro i h1 h2
  rw [ints_size] at h2
  have h3 : i < (strOf 32 O).size := by omega
  have := byteAt_strOf 32 O i h2 (hO i h2)
  rw [← byteAt_lt _ i h3] at this
  simp only [List.getElem_toArray, List.getElem_map]
  have e4 := ints_get .u8 32 O i h2
  rw [Array.getElem?_eq_getElem (by rw [ints_size]; exact h2)] at e4
  rw [Option.some.inj e4, ← this]
  rfl
 rw [e] at hr
 simp only [Sem.run_bind, hr, Result.andThen_ok, Sem.run_pure]
 rfl
theorem one_any (k : Nat → Int) (info : ByteArray) (w : World) (hi : info.size ≤ 100000) (hT : Tabs w) :
  Calls Tryz.prog 16 #[.agg (ints .u8 32 k), .string info] w fun e w' => e = .returned (.agg (ints .u8 32 (oneF (strOf 32 k) info))) ∧ Below w.heap.size w w' := by
 have hTT : Hid (Tabs w) := hT
 clear hT
 have c1 : ∀ W : World, Tabs W → Calls Tryz.prog 30 #[.agg (ints .u8 32 k), .string info, .int .i64 32] W fun e w' => e = .returned (.tuple #[.string (strOf 32 (oneF (strOf 32 k) info)), .bool true]) ∧ Below W.heap.size W w' := fun W h => by
  have := expand_any k info 32 W hi h
  rw [if_pos ⟨by decide, by decide⟩, decide_eq_true ⟨by decide, by decide⟩, show ((32 : Int)).toNat = 32 from rfl, strm_one] at this
  exact this
 have hcp := copyOf_key (oneF (strOf 32 k) info) (one_bytes _ _)
 generalize oneF (strOf 32 k) info = O at *
 have hG := Grew.refl w
 have fk : True := trivial
 have fr : True := trivial
 have fo : True := trivial
 go_enter Tryz.func16, Tryz.ntmps16
 go_wp2_with fail
 replace fk : objAt (((w.alloc (.cells (ints .u8 32 (k)) 27)).alloc (.cells (ints .u8 32 (nought)) 27)).alloc (.cells (ints .u8 32 (nought)) 27)) (w.heap.size) = some (.cells (ints .u8 32 (k)) 27) := by exact keep_auto
 replace fr : objAt (((w.alloc (.cells (ints .u8 32 (k)) 27)).alloc (.cells (ints .u8 32 (nought)) 27)).alloc (.cells (ints .u8 32 (nought)) 27)) (w.heap.size + 1) = some (.cells (ints .u8 32 (nought)) 27) := by exact keep_auto
 replace fo : objAt (((w.alloc (.cells (ints .u8 32 (k)) 27)).alloc (.cells (ints .u8 32 (nought)) 27)).alloc (.cells (ints .u8 32 (nought)) 27)) (w.heap.size + 1 + 1) = some (.cells (ints .u8 32 (nought)) 27) := by exact keep_auto
 replace hG : Below w.heap.size w (((w.alloc (.cells (ints .u8 32 (k)) 27)).alloc (.cells (ints .u8 32 (nought)) 27)).alloc (.cells (ints .u8 32 (nought)) 27)) := by exact grew_auto
 generalize ((w.alloc (.cells (ints .u8 32 (k)) 27)).alloc (.cells (ints .u8 32 (nought)) 27)).alloc (.cells (ints .u8 32 (nought)) 27) = w1 at *
 have lfk := lt_of_objAt fk
 have lfr := lt_of_objAt fr
 have lfo := lt_of_objAt fo
 go_wp2_with fail
 (refine (c1 _ (hTT.out.later hG)).mono ?_; rintro e w2 ⟨rfl, hb⟩; replace fk : objAt w2 (w.heap.size) = some (.cells (ints .u8 32 (k)) 27) := keep_below hb (by exact keep_auto); have lfk := lt_of_objAt fk; replace fr : objAt w2 (w.heap.size + 1) = some (.cells (ints .u8 32 (nought)) 27) := keep_below hb (by exact keep_auto); have lfr := lt_of_objAt fr; replace fo : objAt w2 (w.heap.size + 1 + 1) = some (.cells (ints .u8 32 (nought)) 27) := keep_below hb (by exact keep_auto); have lfo := lt_of_objAt fo; replace hG : Below w.heap.size w w2 := Grew.trans (by exact grew_auto) hb; clear hb)
 have nro : ¬ (w.heap.size + 1 = w.heap.size + 1 + 1) := by omega
 have nor : ¬ (w.heap.size + 1 + 1 = w.heap.size + 1) := by omega
 go_wp2
 refine ret_row rfl _ 27 _ (0, 0) _ rfl (keep_row _ (keep_setRow _ _ fr (by omega))) Tryz.underlying27 rfl (by rw [ints_size]; kernel_rfl) rfl ⟨rfl, by exact grew_auto⟩
theorem oneC : OneC := fun k info W hk hi hT => one_any k info W hi hT
end Go.Proofs.YtdoolhbmekahdaaGreatDoor
namespace Go.Proofs.YtdoolhbmekahdaaGreatDoor
open Go.RowKit
set_option linter.unusedVariables false
set_option linter.unusedSimpArgs false
theorem label_is (name secret info : ByteArray) : oneF (strOf 32 (macF name secret)) info = labelF name secret info := rfl
theorem node_is (z : Nat → Int) : labelF ⟨#[115, 97, 112, 119, 111, 111, 100, 32, 110, 111, 100, 101]⟩ (strOf 32 z) (catS (fun _ => ByteArray.empty) 0) = nodeF z := rfl
theorem leaf_is (z : Nat → Int) : labelF ⟨#[115, 97, 112, 119, 111, 111, 100, 32, 108, 101, 97, 102]⟩ (strOf 32 z) (catS (fun _ => ByteArray.empty) 0) = leafF z := rfl
theorem tag_is (z : Nat → Int) : labelF ⟨#[115, 97, 112, 119, 111, 111, 100, 32, 116, 97, 103]⟩ (strOf 32 z) (catS (fun _ => ByteArray.empty) 0) = tagF z := rfl
theorem stage_is (o t p : Nat → Int) : labelF ⟨#[115, 97, 112, 119, 111, 111, 100, 32, 115, 116, 97, 103, 101]⟩ (strOf 32 o ++ strOf 32 t) (strOf 32 p) = stageF o t p := rfl
theorem past_is (o : Nat → Int) (m : ByteArray) : shaF (strOf 32 o ++ m) = pastF o m := rfl
attribute [local irreducible] strOf shaF zerosB padB fullB hashT
attribute [local irreducible] macF
attribute [local irreducible] labelF oneF nodeF leafF tagF stageF pastF
theorem label_any (name secret : ByteArray) (oa : Option Addr) (n c : Nat) (F : Nat → ByteArray) (w : World) (h1 : name.size ≤ 100000) (h2 : secret.size ≤ 100000) (h3 : (catS F n).size ≤ 100000) (h4 : n ≤ 100000) (hnc : n ≤ c) (hS : StrsAt w oa n F) (hT : Tabs w) :
  Calls Tryz.prog 10 #[.string name, .string secret, .slice oa n c] w fun e w' => e = .returned (.agg (ints .u8 32 (labelF name secret (catS F n)))) ∧ Below w.heap.size w w' := by
 have hTT : Hid (Tabs w) := hT
 have c1 := fun (W : World) (h : Tabs W) => extract_any name secret W h1 h2 h
 have c2 : ∀ W : World, Below w.heap.size w W → Calls Tryz.prog 18 #[.slice oa n c, .string ⟨#[]⟩] W fun e w' => e = .returned (.string (catS F n)) ∧ Below W.heap.size W w' := fun W hW => join_any oa n c F W (hS.later hW) hnc (by omega)
 have c3 : ∀ W : World, Tabs W → Calls Tryz.prog 16 #[.agg (ints .u8 32 (macF name secret)), .string (catS F n)] W fun e w' => e = .returned (.agg (ints .u8 32 (labelF name secret (catS F n)))) ∧ Below W.heap.size W w' := fun W h => by
  have := one_any (macF name secret) (catS F n) W h3 h
  rw [label_is] at this
  exact this
 generalize labelF name secret (catS F n) = L at *
 generalize catS F n = S at *
 generalize macF name secret = M at *
 clear hT hS h1 h2 h3 h4
 have hG := Grew.refl w
 have fr : True := trivial
 go_enter Tryz.func10, Tryz.ntmps10
 go_wp2_with fail
 replace fr : objAt (w.alloc (.cells (ints .u8 32 (nought)) 27)) (w.heap.size) = some (.cells (ints .u8 32 (nought)) 27) := by exact keep_auto
 replace hG : Below w.heap.size w (w.alloc (.cells (ints .u8 32 (nought)) 27)) := by exact grew_auto
 generalize w.alloc (.cells (ints .u8 32 (nought)) 27) = w1 at *
 have lfr := lt_of_objAt fr
 go_wp2_with fail
 (refine (c1 _ (hTT.out.later hG)).mono ?_; rintro e w2 ⟨rfl, hb⟩; replace fr : objAt w2 (w.heap.size) = some (.cells (ints .u8 32 (nought)) 27) := keep_below hb (by exact keep_auto); have lfr := lt_of_objAt fr; replace hG : Below w.heap.size w w2 := Grew.trans (by exact grew_auto) hb; clear hb)
 go_wp2_with fail
 (refine (c2 _ hG).mono ?_; rintro e w3 ⟨rfl, hb⟩; replace fr : objAt w3 (w.heap.size) = some (.cells (ints .u8 32 (nought)) 27) := keep_below hb (by exact keep_auto); have lfr := lt_of_objAt fr; replace hG : Below w.heap.size w w3 := Grew.trans (by exact grew_auto) hb; clear hb)
 go_wp2_with fail
 (refine (c3 _ (hTT.out.later hG)).mono ?_; rintro e w4 ⟨rfl, hb⟩; replace fr : objAt w4 (w.heap.size) = some (.cells (ints .u8 32 (nought)) 27) := keep_below hb (by exact keep_auto); have lfr := lt_of_objAt fr; replace hG : Below w.heap.size w w4 := Grew.trans (by exact grew_auto) hb; clear hb)
 go_wp2
 refine ret_row rfl _ 27 _ (0, 0) _ rfl (keep_row _ fr) Tryz.underlying27 rfl (by rw [ints_size]; kernel_rfl) rfl ⟨rfl, by exact grew_auto⟩
theorem pnode_any (z : Nat → Int) (w : World) (hT : Tabs w) :
  Calls Tryz.prog 340 #[.agg (ints .u8 32 z)] w fun e w' => e = .returned (.agg (ints .u8 32 (nodeF z))) ∧ Below w.heap.size w w' := by
 have hTT : Hid (Tabs w) := hT
 clear hT
 have c2 : ∀ W : World, Tabs W → Calls Tryz.prog 10 #[.string ⟨#[115, 97, 112, 119, 111, 111, 100, 32, 110, 111, 100, 101]⟩, .string (strOf 32 z), .slice none 0 0] W fun e w' => e = .returned (.agg (ints .u8 32 (nodeF z))) ∧ Below W.heap.size W w' := fun W h => by
  have := label_any ⟨#[115, 97, 112, 119, 111, 111, 100, 32, 110, 111, 100, 101]⟩ (strOf 32 z) none 0 0 (fun _ => ByteArray.empty) W (by decide) (by rw [strOf_size]; decide) (by decide) (by decide) (by decide) (strs_none _ _) h
  rw [node_is] at this
  exact this
 obtain ⟨Z, hZ⟩ : ∃ Z, Hid (strOf 32 z = Z) := ⟨_, rfl⟩
 rw [hZ.out] at c2
 generalize nodeF z = L at *
 have hG := Grew.refl w
 have fk : True := trivial
 have fr : True := trivial
 go_enter Tryz.func340, Tryz.ntmps340
 go_wp2_with fail
 replace fk : objAt ((w.alloc (.cells (ints .u8 32 (z)) 27)).alloc (.cells (ints .u8 32 (nought)) 27)) (w.heap.size) = some (.cells (ints .u8 32 (z)) 27) := by exact keep_auto
 replace fr : objAt ((w.alloc (.cells (ints .u8 32 (z)) 27)).alloc (.cells (ints .u8 32 (nought)) 27)) (w.heap.size + 1) = some (.cells (ints .u8 32 (nought)) 27) := by exact keep_auto
 replace hG : Below w.heap.size w ((w.alloc (.cells (ints .u8 32 (z)) 27)).alloc (.cells (ints .u8 32 (nought)) 27)) := by exact grew_auto
 generalize (w.alloc (.cells (ints .u8 32 (z)) 27)).alloc (.cells (ints .u8 32 (nought)) 27) = w1 at *
 have lfk := lt_of_objAt fk
 have lfr := lt_of_objAt fr
 have hc := run_str (P := Tryz.prog) (src := 36) (dst := 9) Tryz.underlying36 Tryz.underlying5 Tryz.underlying9 w.heap.size 32 32 32 z w1 fk (by omega)
 rw [hZ.out] at hc
 (try rw [hc])
 go_wp2_with fail
 (refine (c2 _ (hTT.out.later hG)).mono ?_; rintro e w2 ⟨rfl, hb⟩; replace fk : objAt w2 (w.heap.size) = some (.cells (ints .u8 32 (z)) 27) := keep_below hb (by exact keep_auto); have lfk := lt_of_objAt fk; replace fr : objAt w2 (w.heap.size + 1) = some (.cells (ints .u8 32 (nought)) 27) := keep_below hb (by exact keep_auto); have lfr := lt_of_objAt fr; replace hG : Below w.heap.size w w2 := Grew.trans (by exact grew_auto) hb; clear hb)
 go_wp2
 refine ret_row rfl _ 27 _ (0, 0) _ rfl (keep_row _ fr) Tryz.underlying27 rfl (by rw [ints_size]; kernel_rfl) rfl ⟨rfl, by exact grew_auto⟩
theorem nodeC : NodeC := fun z W hz hT => pnode_any z W hT
theorem pleaf_any (z : Nat → Int) (w : World) (hT : Tabs w) :
  Calls Tryz.prog 252 #[.agg (ints .u8 32 z)] w fun e w' => e = .returned (.agg (ints .u8 32 (leafF z))) ∧ Below w.heap.size w w' := by
 have hTT : Hid (Tabs w) := hT
 clear hT
 have c2 : ∀ W : World, Tabs W → Calls Tryz.prog 10 #[.string ⟨#[115, 97, 112, 119, 111, 111, 100, 32, 108, 101, 97, 102]⟩, .string (strOf 32 z), .slice none 0 0] W fun e w' => e = .returned (.agg (ints .u8 32 (leafF z))) ∧ Below W.heap.size W w' := fun W h => by
  have := label_any ⟨#[115, 97, 112, 119, 111, 111, 100, 32, 108, 101, 97, 102]⟩ (strOf 32 z) none 0 0 (fun _ => ByteArray.empty) W (by decide) (by rw [strOf_size]; decide) (by decide) (by decide) (by decide) (strs_none _ _) h
  rw [leaf_is] at this
  exact this
 obtain ⟨Z, hZ⟩ : ∃ Z, Hid (strOf 32 z = Z) := ⟨_, rfl⟩
 rw [hZ.out] at c2
 generalize leafF z = L at *
 have hG := Grew.refl w
 have fk : True := trivial
 have fr : True := trivial
 go_enter Tryz.func252, Tryz.ntmps252
 go_wp2_with fail
 replace fk : objAt ((w.alloc (.cells (ints .u8 32 (z)) 27)).alloc (.cells (ints .u8 32 (nought)) 27)) (w.heap.size) = some (.cells (ints .u8 32 (z)) 27) := by exact keep_auto
 replace fr : objAt ((w.alloc (.cells (ints .u8 32 (z)) 27)).alloc (.cells (ints .u8 32 (nought)) 27)) (w.heap.size + 1) = some (.cells (ints .u8 32 (nought)) 27) := by exact keep_auto
 replace hG : Below w.heap.size w ((w.alloc (.cells (ints .u8 32 (z)) 27)).alloc (.cells (ints .u8 32 (nought)) 27)) := by exact grew_auto
 generalize (w.alloc (.cells (ints .u8 32 (z)) 27)).alloc (.cells (ints .u8 32 (nought)) 27) = w1 at *
 have lfk := lt_of_objAt fk
 have lfr := lt_of_objAt fr
 have hc := run_str (P := Tryz.prog) (src := 36) (dst := 9) Tryz.underlying36 Tryz.underlying5 Tryz.underlying9 w.heap.size 32 32 32 z w1 fk (by omega)
 rw [hZ.out] at hc
 (try rw [hc])
 go_wp2_with fail
 (refine (c2 _ (hTT.out.later hG)).mono ?_; rintro e w2 ⟨rfl, hb⟩; replace fk : objAt w2 (w.heap.size) = some (.cells (ints .u8 32 (z)) 27) := keep_below hb (by exact keep_auto); have lfk := lt_of_objAt fk; replace fr : objAt w2 (w.heap.size + 1) = some (.cells (ints .u8 32 (nought)) 27) := keep_below hb (by exact keep_auto); have lfr := lt_of_objAt fr; replace hG : Below w.heap.size w w2 := Grew.trans (by exact grew_auto) hb; clear hb)
 go_wp2
 refine ret_row rfl _ 27 _ (0, 0) _ rfl (keep_row _ fr) Tryz.underlying27 rfl (by rw [ints_size]; kernel_rfl) rfl ⟨rfl, by exact grew_auto⟩
theorem leafC : LeafC := fun z W hz hT => pleaf_any z W hT
theorem ptag_any (z : Nat → Int) (w : World) (hT : Tabs w) :
  Calls Tryz.prog 314 #[.agg (ints .u8 32 z)] w fun e w' => e = .returned (.agg (ints .u8 32 (tagF z))) ∧ Below w.heap.size w w' := by
 have hTT : Hid (Tabs w) := hT
 clear hT
 have c2 : ∀ W : World, Tabs W → Calls Tryz.prog 10 #[.string ⟨#[115, 97, 112, 119, 111, 111, 100, 32, 116, 97, 103]⟩, .string (strOf 32 z), .slice none 0 0] W fun e w' => e = .returned (.agg (ints .u8 32 (tagF z))) ∧ Below W.heap.size W w' := fun W h => by
  have := label_any ⟨#[115, 97, 112, 119, 111, 111, 100, 32, 116, 97, 103]⟩ (strOf 32 z) none 0 0 (fun _ => ByteArray.empty) W (by decide) (by rw [strOf_size]; decide) (by decide) (by decide) (by decide) (strs_none _ _) h
  rw [tag_is] at this
  exact this
 obtain ⟨Z, hZ⟩ : ∃ Z, Hid (strOf 32 z = Z) := ⟨_, rfl⟩
 rw [hZ.out] at c2
 generalize tagF z = L at *
 have hG := Grew.refl w
 have fk : True := trivial
 have fr : True := trivial
 go_enter Tryz.func314, Tryz.ntmps314
 go_wp2_with fail
 replace fk : objAt ((w.alloc (.cells (ints .u8 32 (z)) 27)).alloc (.cells (ints .u8 32 (nought)) 27)) (w.heap.size) = some (.cells (ints .u8 32 (z)) 27) := by exact keep_auto
 replace fr : objAt ((w.alloc (.cells (ints .u8 32 (z)) 27)).alloc (.cells (ints .u8 32 (nought)) 27)) (w.heap.size + 1) = some (.cells (ints .u8 32 (nought)) 27) := by exact keep_auto
 replace hG : Below w.heap.size w ((w.alloc (.cells (ints .u8 32 (z)) 27)).alloc (.cells (ints .u8 32 (nought)) 27)) := by exact grew_auto
 generalize (w.alloc (.cells (ints .u8 32 (z)) 27)).alloc (.cells (ints .u8 32 (nought)) 27) = w1 at *
 have lfk := lt_of_objAt fk
 have lfr := lt_of_objAt fr
 have hc := run_str (P := Tryz.prog) (src := 36) (dst := 9) Tryz.underlying36 Tryz.underlying5 Tryz.underlying9 w.heap.size 32 32 32 z w1 fk (by omega)
 rw [hZ.out] at hc
 (try rw [hc])
 go_wp2_with fail
 (refine (c2 _ (hTT.out.later hG)).mono ?_; rintro e w2 ⟨rfl, hb⟩; replace fk : objAt w2 (w.heap.size) = some (.cells (ints .u8 32 (z)) 27) := keep_below hb (by exact keep_auto); have lfk := lt_of_objAt fk; replace fr : objAt w2 (w.heap.size + 1) = some (.cells (ints .u8 32 (nought)) 27) := keep_below hb (by exact keep_auto); have lfr := lt_of_objAt fr; replace hG : Below w.heap.size w w2 := Grew.trans (by exact grew_auto) hb; clear hb)
 go_wp2
 refine ret_row rfl _ 27 _ (0, 0) _ rfl (keep_row _ fr) Tryz.underlying27 rfl (by rw [ints_size]; kernel_rfl) rfl ⟨rfl, by exact grew_auto⟩
theorem tagC : TagC := fun z W hz hT => ptag_any z W hT
theorem pstage_any (o t p : Nat → Int) (w : World) (hT : Tabs w) :
  Calls Tryz.prog 313 #[.agg (ints .u8 32 o), .agg (ints .u8 32 t), .agg (ints .u8 32 p)] w fun e w' => e = .returned (.agg (ints .u8 32 (stageF o t p))) ∧ Below w.heap.size w w' := by
 have hTT : Hid (Tabs w) := hT
 clear hT
 have hf : FitsS (strOf 32 o) (strOf 32 t) := by show _ + _ ≤ _; rw [strOf_size, strOf_size]; decide
 have cL : ∀ (g : Nat) (W : World), StrsAt W (some ⟨g, 0, none⟩) 1 (oneS (strOf 32 p)) → Tabs W → Calls Tryz.prog 10 #[.string ⟨#[115, 97, 112, 119, 111, 111, 100, 32, 115, 116, 97, 103, 101]⟩, .string (strOf 32 o ++ strOf 32 t), .slice (some ⟨g, 0, none⟩) 1 1] W fun e w' => e = .returned (.agg (ints .u8 32 (stageF o t p))) ∧ Below W.heap.size W w' := fun g W hS h => by
  have := label_any ⟨#[115, 97, 112, 119, 111, 111, 100, 32, 115, 116, 97, 103, 101]⟩ (strOf 32 o ++ strOf 32 t) (some ⟨g, 0, none⟩) 1 1 (oneS (strOf 32 p)) W (by decide) (by rw [ByteArray.size_append, strOf_size, strOf_size]; decide) (by rw [cat_one, strOf_size]; decide) (by decide) (by decide) hS h
  rw [cat_one, stage_is] at this
  exact this
 obtain ⟨O1, hO1⟩ : ∃ O1, Hid (strOf 32 o = O1) := ⟨_, rfl⟩
 obtain ⟨T1, hT1⟩ : ∃ T1, Hid (strOf 32 t = T1) := ⟨_, rfl⟩
 obtain ⟨P1, hP1⟩ : ∃ P1, Hid (strOf 32 p = P1) := ⟨_, rfl⟩
 rw [hO1.out, hT1.out] at hf
 rw [hO1.out, hT1.out, hP1.out] at cL
 generalize stageF o t p = L at *
 have hG := Grew.refl w
 have fo : True := trivial
 have ft : True := trivial
 have fp : True := trivial
 have fr : True := trivial
 go_enter Tryz.func313, Tryz.ntmps313
 go_wp2_with fail
 replace fo : objAt ((((w.alloc (.cells (ints .u8 32 (o)) 27)).alloc (.cells (ints .u8 32 (t)) 27)).alloc (.cells (ints .u8 32 (p)) 27)).alloc (.cells (ints .u8 32 (nought)) 27)) (w.heap.size) = some (.cells (ints .u8 32 (o)) 27) := by exact keep_auto
 replace ft : objAt ((((w.alloc (.cells (ints .u8 32 (o)) 27)).alloc (.cells (ints .u8 32 (t)) 27)).alloc (.cells (ints .u8 32 (p)) 27)).alloc (.cells (ints .u8 32 (nought)) 27)) (w.heap.size + 1) = some (.cells (ints .u8 32 (t)) 27) := by exact keep_auto
 replace fp : objAt ((((w.alloc (.cells (ints .u8 32 (o)) 27)).alloc (.cells (ints .u8 32 (t)) 27)).alloc (.cells (ints .u8 32 (p)) 27)).alloc (.cells (ints .u8 32 (nought)) 27)) (w.heap.size + 1 + 1) = some (.cells (ints .u8 32 (p)) 27) := by exact keep_auto
 replace fr : objAt ((((w.alloc (.cells (ints .u8 32 (o)) 27)).alloc (.cells (ints .u8 32 (t)) 27)).alloc (.cells (ints .u8 32 (p)) 27)).alloc (.cells (ints .u8 32 (nought)) 27)) (w.heap.size + 1 + 1 + 1) = some (.cells (ints .u8 32 (nought)) 27) := by exact keep_auto
 replace hG : Below w.heap.size w ((((w.alloc (.cells (ints .u8 32 (o)) 27)).alloc (.cells (ints .u8 32 (t)) 27)).alloc (.cells (ints .u8 32 (p)) 27)).alloc (.cells (ints .u8 32 (nought)) 27)) := by exact grew_auto
 generalize (((w.alloc (.cells (ints .u8 32 (o)) 27)).alloc (.cells (ints .u8 32 (t)) 27)).alloc (.cells (ints .u8 32 (p)) 27)).alloc (.cells (ints .u8 32 (nought)) 27) = w1 at *
 have lfo := lt_of_objAt fo
 have lft := lt_of_objAt ft
 have lfp := lt_of_objAt fp
 have lfr := lt_of_objAt fr
 have hco := fun m : More => run_str (P := Tryz.prog) (src := 36) (dst := 9) Tryz.underlying36 Tryz.underlying5 Tryz.underlying9 (w.heap.size) 32 32 32 o (more w1 m) (keep_more m fo) (by omega)
 rw [hO1.out] at hco
 have hct := fun m : More => run_str (P := Tryz.prog) (src := 36) (dst := 9) Tryz.underlying36 Tryz.underlying5 Tryz.underlying9 (w.heap.size + 1) 32 32 32 t (more w1 m) (keep_more m ft) (by omega)
 rw [hT1.out] at hct
 have hcp := fun m : More => run_str (P := Tryz.prog) (src := 36) (dst := 9) Tryz.underlying36 Tryz.underlying5 Tryz.underlying9 (w.heap.size + 1 + 1) 32 32 32 p (more w1 m) (keep_more m fp) (by omega)
 rw [hP1.out] at hcp
 go_wp2_with fail
 (refine wp_relT 9 (by kernel_rfl) (by kernel_rfl) (by kernel_rfl) (by kernel_rfl) (by kernel_rfl) ?_; simp only [List.take_succ_cons, List.take_zero]; (repeat (first | refine exv_skip rfl ?_ | (refine exv_call rfl ?_; apply Exists.intro))); refine exv_nil ?_; intro γ hinj hbase; (repeat (first | (refine rel_quiet rfl ?_; ((first | go_big_quiet_skip | (go_big_quiet_want; go_big_quiet_op; go_big_quiet_on)); refine wpQuiet_nil ?_)) | ((first | refine rel_skip_some rfl (fun _ => rfl) ?_ | ((try simp only [Nat.zero_add, Nat.reduceAdd]); apply rel_box alloc_cls; (focus rfl); (focus (first | exact cells_agg _ | exact cells_int _ _ | exact cells_bool _ | rfl)); (focus (exact by_fits))) | ((try simp only [Nat.zero_add, Nat.reduceAdd]); apply rel_alloc _ _ alloc_cls; (focus rfl); (focus (intro W; (first | exact zero_key _ | exact zero_elem _ | exact zero_num _ | exact zero_pair _ | exact zero_rnode _ | exact zero_kpair _))); (focus (first | exact cells_ints _ _ _ | exact cells_two _ _ | rfl)); (focus (exact by_fits))) | ((try simp only [Nat.zero_add, Nat.reduceAdd]); apply rel_slice alloc_cls; (focus rfl); (focus (intro W; simp only [List.map_toArray, List.map_cons, List.map_nil]; first | (with_reducible exact build1s _ W) | exact build1s _ W)); (focus (exact by_fits))) | (apply rel_fact; (focus rfl); (focus rfl); (focus rfl); (focus (intro W hC hF; (have hGW : Below w.heap.size w W := (by obtain ⟨mm, rfl⟩ := hC; exact Grew.more hG mm); (try (have hE : StrsAt W (some ⟨γ 7, 0, none⟩) 1 (oneS P1) := strs_one (known hF (List.mem_cons_self ..) (by decide +kernel))))); go_big_quiet_want; go_big_quiet_op; (first | go_big_quiet_on | (apply Exists.intro; refine ⟨fun _ => ?_, ?_⟩; (focus (first | (with_reducible exact Calls.of_more (cL _ _ (hE.later (below_more W _)) (hTT.out.later (Grew.trans hGW (below_more W _))))))); go_big_quiet_on)); exact wpQuiet_nil rfl)); (focus (first | exact fun _ => ⟨rfl, rfl⟩ | exact fun h => absurd h (by decide))))); ((first | go_big_quiet_skip | (go_big_quiet_want; go_big_quiet_op; go_big_quiet_on)); refine wpQuiet_nil ?_)) | refine rel_skip_none rfl (fun _ => rfl) ?_ | ((try simp only [Nat.zero_add, Nat.reduceAdd]); apply rel_store (setRow_cls (hbase _)); (focus rfl); (focus rfl); (focus rfl); (focus (first | exact cells_agg _ | exact cells_int _ _ | exact cells_bool _ | rfl)); rotate_left 3; (focus (exact by_mem)); rotate_right 3; (focus kernel_rfl); (focus (first | exact ints_size _ _ _ | rfl)); (focus (first | exact ints_ones _ _ _ | exact ones_two _ _ _ _ | kernel_rfl)); (focus (decide +kernel)); (focus (exact by_fits))))))
 (refine relT_nil ?_; rintro _ ⟨mq, rfl⟩ hF; simp only [List.forall_mem_cons] at hF; obtain - := hF)
 (refine tail_one (i := 9) (fuel := 0) (by kernel_rfl) rfl ?_; intro K hK; go_simp; refine hK _ _ ?_; clear hK K)
 (refine wpAny_done (by kernel_rfl) ?_ _)
 go_wp2
 refine ret_row rfl _ 27 _ (0, 0) _ rfl (keep_more _ (keep_row _ fr)) Tryz.underlying27 rfl (by rw [ints_size]; kernel_rfl) rfl ⟨rfl, by exact grew_auto⟩
theorem stageC : StageC := fun o t p W ho ht hp hT => pstage_any o t p W hT
theorem ppast_any (o : Nat → Int) (m : ByteArray) (w : World) (hm : m.size ≤ 100000) (hT : Tabs w) :
  Calls Tryz.prog 312 #[.agg (ints .u8 32 o), .string m] w fun e w' => e = .returned (.agg (ints .u8 32 (pastF o m))) ∧ Below w.heap.size w w' := by
 have hTT : Hid (Tabs w) := hT
 clear hT
 have cS := fun (g : Nat) (t : TypeId) (fr : Nat × Nat) (W : World) => sum_two (strOf 32 o) m g t fr W (by rw [strOf_size]; omega)
 rw [past_is] at cS
 obtain ⟨O1, hO1⟩ : ∃ O1, Hid (strOf 32 o = O1) := ⟨_, rfl⟩
 rw [hO1.out] at cS
 generalize pastF o m = L at *
 have hG := Grew.refl w
 have fo : True := trivial
 have fr : True := trivial
 go_enter Tryz.func312, Tryz.ntmps312
 go_wp2_with fail
 replace fo : objAt ((w.alloc (.cells (ints .u8 32 (o)) 27)).alloc (.cells (ints .u8 32 (nought)) 27)) (w.heap.size) = some (.cells (ints .u8 32 (o)) 27) := by exact keep_auto
 replace fr : objAt ((w.alloc (.cells (ints .u8 32 (o)) 27)).alloc (.cells (ints .u8 32 (nought)) 27)) (w.heap.size + 1) = some (.cells (ints .u8 32 (nought)) 27) := by exact keep_auto
 replace hG : Below w.heap.size w ((w.alloc (.cells (ints .u8 32 (o)) 27)).alloc (.cells (ints .u8 32 (nought)) 27)) := by exact grew_auto
 generalize (w.alloc (.cells (ints .u8 32 (o)) 27)).alloc (.cells (ints .u8 32 (nought)) 27) = w1 at *
 have lfo := lt_of_objAt fo
 have lfr := lt_of_objAt fr
 have hc := run_str (P := Tryz.prog) (src := 36) (dst := 9) Tryz.underlying36 Tryz.underlying5 Tryz.underlying9 w.heap.size 32 32 32 o w1 fo (by omega)
 rw [hO1.out] at hc
 (try rw [hc])
 go_wp2_with fail
 have fx : objAt (w1.alloc (.cells #[.string O1, .string m] 9)) w1.heap.size = some (.cells #[.string O1, .string m] 9) := objAt_alloc_at _ _ _ rfl
 replace fo : objAt (w1.alloc (.cells #[.string O1, .string m] 9)) (w.heap.size) = some (.cells (ints .u8 32 (o)) 27) := keep_alloc _ fo
 replace fr : objAt (w1.alloc (.cells #[.string O1, .string m] 9)) (w.heap.size + 1) = some (.cells (ints .u8 32 (nought)) 27) := keep_alloc _ fr
 replace hG : Below w.heap.size w (w1.alloc (.cells #[.string O1, .string m] 9)) := Grew.alloc hG _
 clear lfo lfr
 generalize w1.alloc (.cells #[.string O1, .string m] 9) = w2 at *
 generalize w1.heap.size = gx at *
 have lfo := lt_of_objAt fo
 have lfr := lt_of_objAt fr
 have lfx := lt_of_objAt fx
 go_wp2_with fail
 (refine (cS _ _ _ _ fx (hTT.out.later hG)).mono ?_; rintro e w3 ⟨rfl, hb⟩; replace fo : objAt w3 (w.heap.size) = some (.cells (ints .u8 32 (o)) 27) := keep_below hb (by exact keep_auto); have lfo := lt_of_objAt fo; replace fr : objAt w3 (w.heap.size + 1) = some (.cells (ints .u8 32 (nought)) 27) := keep_below hb (by exact keep_auto); have lfr := lt_of_objAt fr; replace fx : objAt w3 (gx) = some (.cells #[.string O1, .string m] 9) := keep_below hb (by exact keep_auto); have lfx := lt_of_objAt fx; replace hG : Below w.heap.size w w3 := Grew.trans (by exact grew_auto) hb; clear hb)
 go_wp2
 refine ret_row rfl _ 27 _ (0, 0) _ rfl (keep_row _ fr) Tryz.underlying27 rfl (by rw [ints_size]; kernel_rfl) rfl ⟨rfl, by exact grew_auto⟩
theorem pastC : PastC := fun o m W ho hm hT => ppast_any o m W hm hT
end Go.Proofs.YtdoolhbmekahdaaGreatDoor
