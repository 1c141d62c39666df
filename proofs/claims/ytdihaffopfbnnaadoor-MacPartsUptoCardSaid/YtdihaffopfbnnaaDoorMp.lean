/- MacParts. -/
import Derived.Test.YtdihaffopfbnnaaDoorMc
import Derived.Test.YtdihaffopfbnnaaDoorJn
namespace Go.Proofs.YtdihaffopfbnnaaDoor
open Go.RowKit
set_option linter.unusedVariables false
set_option linter.unusedSimpArgs false

attribute [local irreducible] strOf shaF zerosB padB fullB hashT
attribute [local irreducible] macF
/-- one bit turned -/
def flipF (f : Nat → Int) (i : Nat) (m : Int) : Nat → Int := upd f i (bits .xor .u8 (f i) m)
theorem flip_not (f : Nat → Int) (i : Nat) (b : Nat) (hi : i < 32) (hb : b < 8) (hf : Bytes 32 f) : same 32 (flipF f i (2 ^ b)) f = false := by
  cases h : same 32 (flipF f i (2 ^ b)) f with
  | false => rfl
  | true =>
    exfalso
    have h1 := (same_iff _ _ _).1 h i hi
    unfold flipF upd at h1
    rw [if_pos rfl] at h1
    obtain ⟨x, hx, hx2⟩ := u8_nat (f i) (hf i hi).1 (hf i hi).2
    have e : ((2 : Int) ^ b) = ((2 ^ b : Nat) : Int) := by rw [Int.natCast_pow]; rfl
    have hlt : 2 ^ b < 256 := Nat.pow_lt_pow_right (by decide) hb
    rw [hx, e, u8_xor x _ hx2 hlt] at h1
    have h2 : x ^^^ 2 ^ b = x := by exact_mod_cast h1
    have h3 : x ^^^ (x ^^^ 2 ^ b) = x ^^^ x := by rw [h2]
    rw [nat_xor_back, Nat.xor_self] at h3
    have := Nat.two_pow_pos b
    omega
theorem flip_bytes (f : Nat → Int) (i b : Nat) (hi : i < 32) (hb : b < 8) (hf : Bytes 32 f) : Bytes 32 (flipF f i (2 ^ b)) := fun j hj => by
  unfold flipF upd
  split
  · obtain ⟨x, hx, hx2⟩ := u8_nat (f i) (hf i hi).1 (hf i hi).2
    have e : ((2 : Int) ^ b) = ((2 ^ b : Nat) : Int) := by rw [Int.natCast_pow]; rfl
    have hlt : 2 ^ b < 256 := Nat.pow_lt_pow_right (by decide) hb
    rw [hx, e, u8_xor x _ hx2 hlt]
    have hxx : x ^^^ 2 ^ b < 2 ^ 8 := Nat.xor_lt_two_pow (by omega) (by omega)
    omega
  · exact hf j hj
set_option maxRecDepth 100000 in
set_option maxHeartbeats 4000000 in
theorem parts8_any (key : ByteArray) (oa : Option Addr) (n c : Nat) (F : Nat → ByteArray) (t : Nat) (w : World) (ht : t < 256) (hk : key.size ≤ 9223372036854775807) (hnc : n ≤ c) (hl : (catS F n).size + n ≤ 1048576) (hS : StrsAt w oa n F) (hT : Tabs w) :
    Calls Tryd.prog 7 #[.string key, .slice oa n c, .int .u8 t] w fun e w' => e = .returned (.bool true) ∧ Below w.heap.size w w' := by
  have hTT : Hid (Tabs w) := hT
  have hjn : Hid (∀ W : World, Below w.heap.size w W → Calls Tryd.prog 15 #[.slice oa n c, .string ⟨#[]⟩] W fun e w' => e = .returned (.string (catS F n)) ∧ Below W.heap.size W w') := fun W hW => join_any oa n c F W (hS.later hW) hnc (by omega)
  have hxm : Hid (∀ W : World, key.size < 1152921504606846976 → Below w.heap.size w W → Calls Tryd.prog 20 #[.string key, .slice oa n c] W fun e w' => e = .returned (.agg (ints .u8 32 (macF key (catS F n)))) ∧ Below W.heap.size W w') := fun W hk hW => macS_any key oa n c F W hk (by omega) (by omega) (hS.later hW) (hTT.out.later hW)
  have hxc : Hid (∀ (tag : Nat → Int) (W : World), Bytes 32 tag → key.size < 1152921504606846976 → Below w.heap.size w W → Calls Tryd.prog 23 #[.string key, .agg (ints .u8 32 tag), .slice oa n c] W fun e w' => e = .returned (.bool (same 32 tag (macF key (catS F n)))) ∧ Below W.heap.size W w') := fun tag W htg hk hW => check_any key tag oa n c F W htg hk (by omega) (by omega) (hS.later hW) (hTT.out.later hW)
  have hsz : (catS F n).size ≤ 1048576 := by omega
  have hn20 : n ≤ 1048576 := by omega
  clear hT hS hnc hl
  generalize catS F n = S at *
  by_cases hk5 : key.size ≤ 1000
  case neg =>
    have hk6 : 1000 < key.size := by omega
    have hG := Grew.refl w
    go_enter Tryd.func7, Tryd.ntmps7
    go_wp2_with fail
    (refine (awake8_any _ hTT.out).mono ?_; rintro e w1 ⟨rfl, hb⟩; replace hG : Below w.heap.size w w1 := Grew.trans (by (repeat (first | assumption | exact Grew.refl _ | refine Grew.more ?_ _ | refine Grew.alloc ?_ _ | refine Grew.drewN ?_ _ | refine Grew.setRow ?_ _ _ (by omega) | refine Grew.setRow ?_ _ _ (by simp; omega) | refine Grew.setRow ?_ _ _ (by simp)))) hb; clear hb)
    go_wp2_with fail
    (refine (hjn.out _ hG).mono ?_; rintro e w2 ⟨rfl, hb⟩; replace hG : Below w.heap.size w w2 := Grew.trans (by (repeat (first | assumption | exact Grew.refl _ | refine Grew.more ?_ _ | refine Grew.alloc ?_ _ | refine Grew.drewN ?_ _ | refine Grew.setRow ?_ _ _ (by omega) | refine Grew.setRow ?_ _ _ (by simp; omega) | refine Grew.setRow ?_ _ _ (by simp)))) hb; clear hb)
    go_wp2
    go_ret
    exact ⟨rfl, by (repeat (first | assumption | exact Grew.refl _ | refine Grew.more ?_ _ | refine Grew.alloc ?_ _ | refine Grew.drewN ?_ _ | refine Grew.setRow ?_ _ _ (by omega) | refine Grew.setRow ?_ _ _ (by simp; omega) | refine Grew.setRow ?_ _ _ (by simp)))⟩
  by_cases hn5 : n ≤ 60
  case neg =>
    have hn6 : 60 < n := by omega
    have hG := Grew.refl w
    go_enter Tryd.func7, Tryd.ntmps7
    go_wp2_with fail
    (refine (awake8_any _ hTT.out).mono ?_; rintro e w1 ⟨rfl, hb⟩; replace hG : Below w.heap.size w w1 := Grew.trans (by (repeat (first | assumption | exact Grew.refl _ | refine Grew.more ?_ _ | refine Grew.alloc ?_ _ | refine Grew.drewN ?_ _ | refine Grew.setRow ?_ _ _ (by omega) | refine Grew.setRow ?_ _ _ (by simp; omega) | refine Grew.setRow ?_ _ _ (by simp)))) hb; clear hb)
    go_wp2_with fail
    (refine (hjn.out _ hG).mono ?_; rintro e w2 ⟨rfl, hb⟩; replace hG : Below w.heap.size w w2 := Grew.trans (by (repeat (first | assumption | exact Grew.refl _ | refine Grew.more ?_ _ | refine Grew.alloc ?_ _ | refine Grew.drewN ?_ _ | refine Grew.setRow ?_ _ _ (by omega) | refine Grew.setRow ?_ _ _ (by simp; omega) | refine Grew.setRow ?_ _ _ (by simp)))) hb; clear hb)
    go_wp2
    go_ret
    exact ⟨rfl, by (repeat (first | assumption | exact Grew.refl _ | refine Grew.more ?_ _ | refine Grew.alloc ?_ _ | refine Grew.drewN ?_ _ | refine Grew.setRow ?_ _ _ (by omega) | refine Grew.setRow ?_ _ _ (by simp; omega) | refine Grew.setRow ?_ _ _ (by simp)))⟩
  by_cases hs5 : S.size ≤ 1000
  case neg =>
    have hs6 : 1000 < S.size := by omega
    have hG := Grew.refl w
    go_enter Tryd.func7, Tryd.ntmps7
    go_wp2_with fail
    (refine (awake8_any _ hTT.out).mono ?_; rintro e w1 ⟨rfl, hb⟩; replace hG : Below w.heap.size w w1 := Grew.trans (by (repeat (first | assumption | exact Grew.refl _ | refine Grew.more ?_ _ | refine Grew.alloc ?_ _ | refine Grew.drewN ?_ _ | refine Grew.setRow ?_ _ _ (by omega) | refine Grew.setRow ?_ _ _ (by simp; omega) | refine Grew.setRow ?_ _ _ (by simp)))) hb; clear hb)
    go_wp2_with fail
    (refine (hjn.out _ hG).mono ?_; rintro e w2 ⟨rfl, hb⟩; replace hG : Below w.heap.size w w2 := Grew.trans (by (repeat (first | assumption | exact Grew.refl _ | refine Grew.more ?_ _ | refine Grew.alloc ?_ _ | refine Grew.drewN ?_ _ | refine Grew.setRow ?_ _ _ (by omega) | refine Grew.setRow ?_ _ _ (by simp; omega) | refine Grew.setRow ?_ _ _ (by simp)))) hb; clear hb)
    go_wp2
    go_ret
    exact ⟨rfl, by (repeat (first | assumption | exact Grew.refl _ | refine Grew.more ?_ _ | refine Grew.alloc ?_ _ | refine Grew.drewN ?_ _ | refine Grew.setRow ?_ _ _ (by omega) | refine Grew.setRow ?_ _ _ (by simp; omega) | refine Grew.setRow ?_ _ _ (by simp)))⟩
  have hx1 : Hid (∀ (g : Nat) (W : World), StrsAt W (some ⟨g, 0, none⟩) 1 (oneS S) → Tabs W → Calls Tryd.prog 20 #[.string key, .slice (some ⟨g, 0, none⟩) 1 1] W fun e w' => e = .returned (.agg (ints .u8 32 (macF key S))) ∧ Below W.heap.size W w') := fun g W h hT => mac_one key S g W (by omega) (by omega) h hT
  have hx2 : Hid (∀ (tag : Nat → Int) (g : Nat) (W : World), Bytes 32 tag → StrsAt W (some ⟨g, 0, none⟩) 1 (oneS S) → Tabs W → Calls Tryd.prog 23 #[.string key, .agg (ints .u8 32 tag), .slice (some ⟨g, 0, none⟩) 1 1] W fun e w' => e = .returned (.bool (same 32 tag (macF key S))) ∧ Below W.heap.size W w') := fun tag g W htg h hT => by
    have := check_any key tag (some ⟨g, 0, none⟩) 1 1 (oneS S) W htg (by omega) (by rw [cat_one]; omega) (by decide) h hT
    rw [cat_one] at this
    exact this
  have hbl : Hid (∀ W : World, Below w.heap.size w W → Calls Tryd.prog 21 #[.string key] W fun e w' => e = .returned (.string (blockB key)) ∧ Below W.heap.size W w') := fun W hW => block_any key W (by omega) (hTT.out.later hW)
  have hb64 : ((blockB key).size : Int) = 64 := by rw [blockB_size]; rfl
  have hMb := mac_bytes key S
  have hi32 : t / 8 < 32 := by omega
  have hb8 : t % 8 < 8 := by omega
  have hfl := flip_not (macF key S) (t / 8) (t % 8) hi32 hb8 hMb
  have hfb := flip_bytes (macF key S) (t / 8) (t % 8) hi32 hb8 hMb
  have hFE : Hid (flipF (macF key S) (t / 8) (2 ^ (t % 8)) = upd (macF key S) (t / 8) (bits .xor .u8 (macF key S (t / 8)) (2 ^ (t % 8)))) := rfl
  have hsame := same_refl 32 (macF key S)
  have hxm2 := fun W => hxm.out W (by omega)
  generalize blockB key = B at *
  generalize macF key S = M at *
  generalize flipF M (t / 8) (2 ^ (t % 8)) = M2 at *
  have hpow : (2 : Int) ^ (t % 8) % 256 = 2 ^ (t % 8) := by
    have e : ((2 : Int) ^ (t % 8)) = ((2 ^ (t % 8) : Nat) : Int) := by rw [Int.natCast_pow]; rfl
    have hlt : 2 ^ (t % 8) < 256 := Nat.pow_lt_pow_right (by decide) hb8
    rw [e, show (256 : Int) = ((256 : Nat) : Int) from rfl, ← Int.natCast_emod, Nat.mod_eq_of_lt hlt]
  have c1 := hx1.out
  have c2 := fun g W => hx2.out M g W hMb
  rw [hsame] at c2
  have c3 := fun W => hxc.out M2 W hfb (by omega)
  rw [hfl] at c3
  have c4 := hbl.out
  clear hxm hx1 hx2 hxc hbl
  have hG := Grew.refl w
  go_enter Tryd.func7, Tryd.ntmps7
  go_wp2_with fail
  (refine (awake8_any _ hTT.out).mono ?_; rintro e w1 ⟨rfl, hb⟩; replace hG : Below w.heap.size w w1 := Grew.trans (by (repeat (first | assumption | exact Grew.refl _ | refine Grew.more ?_ _ | refine Grew.alloc ?_ _ | refine Grew.drewN ?_ _ | refine Grew.setRow ?_ _ _ (by omega) | refine Grew.setRow ?_ _ _ (by simp; omega) | refine Grew.setRow ?_ _ _ (by simp)))) hb; clear hb)
  go_wp2_with fail
  (refine (hjn.out _ hG).mono ?_; rintro e w2 ⟨rfl, hb⟩; replace hG : Below w.heap.size w w2 := Grew.trans (by (repeat (first | assumption | exact Grew.refl _ | refine Grew.more ?_ _ | refine Grew.alloc ?_ _ | refine Grew.drewN ?_ _ | refine Grew.setRow ?_ _ _ (by omega) | refine Grew.setRow ?_ _ _ (by simp; omega) | refine Grew.setRow ?_ _ _ (by simp)))) hb; clear hb)
  go_wp2_with fail
  (refine (hxm2 _ hG).mono ?_; rintro e w3 ⟨rfl, hb⟩; replace hG : Below w.heap.size w w3 := Grew.trans (by (repeat (first | assumption | exact Grew.refl _ | refine Grew.more ?_ _ | refine Grew.alloc ?_ _ | refine Grew.drewN ?_ _ | refine Grew.setRow ?_ _ _ (by omega) | refine Grew.setRow ?_ _ _ (by simp; omega) | refine Grew.setRow ?_ _ _ (by simp)))) hb; clear hb)
  go_wp2_with fail
  (try rw [hpow])
  rw [← hFE.out]
  clear hFE hk5 hn5 hs5 hn20 hsz hk hfl hMb
  have ea : objAt ((w3.alloc (.cells (ints .u8 32 (M)) 24)).alloc (.cells (ints .u8 32 (M2)) 24)) (w3.heap.size) = some (.cells (ints .u8 32 (M)) 24) := keep_alloc _ (objAt_alloc_at _ _ _ rfl)
  have eb : objAt ((w3.alloc (.cells (ints .u8 32 (M)) 24)).alloc (.cells (ints .u8 32 (M2)) 24)) (w3.heap.size + 1) = some (.cells (ints .u8 32 (M2)) 24) := objAt_alloc_at _ _ _ (by simp)
  replace hG : Below w.heap.size w ((w3.alloc (.cells (ints .u8 32 (M)) 24)).alloc (.cells (ints .u8 32 (M2)) 24)) := Grew.alloc (Grew.alloc (hG) _) _
  generalize (w3.alloc (.cells (ints .u8 32 (M)) 24)).alloc (.cells (ints .u8 32 (M2)) 24) = w4 at *
  generalize w3.heap.size + 1 = gb at *
  generalize w3.heap.size = ga at *
  have fb := eb
  have fa := ea
  clear eb ea
  have lfb := lt_of_objAt fb
  have lfa := lt_of_objAt fa
  go_wp2_with fail
  (refine wp_rel (by kernel_rfl) (by kernel_rfl) ?_; (repeat (first | refine exv_skip rfl ?_ | (refine exv_call rfl ?_; apply Exists.intro))); refine exv_nil ?_; intro γ hinj hbase; (repeat (first | (refine rel_quiet rfl ?_; ((first | go_big_quiet_skip | (go_big_quiet_want; go_big_quiet_op; go_big_quiet_on)); refine wpQuiet_nil ?_)) | (first | (refine rel_skip_some rfl (fun _ => rfl) ?_; ((first | go_big_quiet_skip | (go_big_quiet_want; go_big_quiet_op; go_big_quiet_on)); refine wpQuiet_nil ?_)) | refine rel_skip_none rfl (fun _ => rfl) ?_) | ((try simp only [Nat.zero_add, Nat.reduceAdd]); apply rel_box alloc_cls; (focus rfl); (focus (first | exact cells_agg _ | exact cells_int _ _ | exact cells_bool _ | rfl)); (focus ((repeat (refine fits_cons ⟨by (first | exact stab_full _ _ _ | exact stab_hdr _ _ _ | exact stab_hdr_at _ _ _ _ | exact stab_full_at _ _ _ _ (hinj _ _ (by decide))), by (first | exact stab_full _ _ _ | exact stab_hdr _ _ _ | exact stab_hdr_at _ _ _ _ | exact stab_full_at _ _ _ _ (hinj _ _ (by decide)))⟩ ?_)); exact fits_nil (by (first | exact stab_full _ _ _ | exact stab_hdr _ _ _ | exact stab_hdr_at _ _ _ _ | exact stab_full_at _ _ _ _ (hinj _ _ (by decide)))))); ((first | go_big_quiet_skip | (go_big_quiet_want; go_big_quiet_op; go_big_quiet_on)); refine wpQuiet_nil ?_)) | ((try simp only [Nat.zero_add, Nat.reduceAdd]); apply rel_alloc _ _ alloc_cls; (focus rfl); (focus (intro W; (first | exact zero_key _ | exact zero_elem _ | exact zero_num _ | exact zero_pair _))); (focus exact cells_ints _ _ _); (focus ((repeat (refine fits_cons ⟨by (first | exact stab_full _ _ _ | exact stab_hdr _ _ _ | exact stab_hdr_at _ _ _ _ | exact stab_full_at _ _ _ _ (hinj _ _ (by decide))), by (first | exact stab_full _ _ _ | exact stab_hdr _ _ _ | exact stab_hdr_at _ _ _ _ | exact stab_full_at _ _ _ _ (hinj _ _ (by decide)))⟩ ?_)); exact fits_nil (by (first | exact stab_full _ _ _ | exact stab_hdr _ _ _ | exact stab_hdr_at _ _ _ _ | exact stab_full_at _ _ _ _ (hinj _ _ (by decide)))))); ((first | go_big_quiet_skip | (go_big_quiet_want; go_big_quiet_op; go_big_quiet_on)); refine wpQuiet_nil ?_)) | ((try simp only [Nat.zero_add, Nat.reduceAdd]); apply rel_slice alloc_cls; (focus rfl); (focus (intro W; simp only [List.map_toArray, List.map_cons, List.map_nil]; first | exact build1s _ W)); (focus ((repeat (refine fits_cons ⟨by (first | exact stab_full _ _ _ | exact stab_hdr _ _ _ | exact stab_hdr_at _ _ _ _ | exact stab_full_at _ _ _ _ (hinj _ _ (by decide))), by (first | exact stab_full _ _ _ | exact stab_hdr _ _ _ | exact stab_hdr_at _ _ _ _ | exact stab_full_at _ _ _ _ (hinj _ _ (by decide)))⟩ ?_)); exact fits_nil (by (first | exact stab_full _ _ _ | exact stab_hdr _ _ _ | exact stab_hdr_at _ _ _ _ | exact stab_full_at _ _ _ _ (hinj _ _ (by decide)))))); ((first | go_big_quiet_skip | (go_big_quiet_want; go_big_quiet_op; go_big_quiet_on)); refine wpQuiet_nil ?_)) | ((try simp only [Nat.zero_add, Nat.reduceAdd]); apply rel_store (setRow_cls (hbase _)); (focus rfl); (focus rfl); (focus rfl); (focus (first | exact cells_agg _ | exact cells_int _ _ | exact cells_bool _ | rfl)); rotate_left 3; (focus (first | exact List.mem_cons_self .. | exact List.mem_cons_of_mem _ (List.mem_cons_self ..) | exact List.mem_cons_of_mem _ (List.mem_cons_of_mem _ (List.mem_cons_self ..)) | exact List.mem_cons_of_mem _ (List.mem_cons_of_mem _ (List.mem_cons_of_mem _ (List.mem_cons_self ..))) | exact List.mem_cons_of_mem _ (List.mem_cons_of_mem _ (List.mem_cons_of_mem _ (List.mem_cons_of_mem _ (List.mem_cons_self ..)))))); rotate_right 3; (focus kernel_rfl); (focus exact ints_size _ _ _); (focus exact ints_ones _ _ _); (focus (decide +kernel)); (focus ((repeat (refine fits_cons ⟨by (first | exact stab_full _ _ _ | exact stab_hdr _ _ _ | exact stab_hdr_at _ _ _ _ | exact stab_full_at _ _ _ _ (hinj _ _ (by decide))), by (first | exact stab_full _ _ _ | exact stab_hdr _ _ _ | exact stab_hdr_at _ _ _ _ | exact stab_full_at _ _ _ _ (hinj _ _ (by decide)))⟩ ?_)); exact fits_nil (by (first | exact stab_full _ _ _ | exact stab_hdr _ _ _ | exact stab_hdr_at _ _ _ _ | exact stab_full_at _ _ _ _ (hinj _ _ (by decide))))))) | (apply rel_fact; (focus rfl); (focus rfl); (focus rfl); (focus (intro W hC hF; (have hGW : Below w.heap.size w W := (by obtain ⟨m, rfl⟩ := hC; exact Grew.more hG m); try (first | (have hE : StrsAt W (some ⟨γ 10, 0, none⟩) 1 (oneS S) := strs_one (known hF (List.mem_cons_self ..) (by decide +kernel))) | (have hE : StrsAt W (some ⟨γ 3, 0, none⟩) 1 (oneS S) := strs_one (known hF (List.mem_cons_self ..) (by decide +kernel))))); go_big_quiet_want; go_big_quiet_op; (first | go_big_quiet_on | (apply Exists.intro; refine ⟨fun _ => ?_, ?_⟩; (focus (first | (with_reducible exact Calls.of_more (c1 _ _ (hE.later (below_more W _)) (hTT.out.later (Grew.trans hGW (below_more W _))))) | (with_reducible exact Calls.of_more (c2 _ _ (hE.later (below_more W _)) (hTT.out.later (Grew.trans hGW (below_more W _))))) | (with_reducible exact Calls.of_more (c3 _ (Grew.trans hGW (below_more W _)))) | (with_reducible exact Calls.of_more (c4 _ (Grew.trans hGW (below_more W _)))))); go_big_quiet_on)); exact wpQuiet_nil rfl)); (focus (exact fun _ => rfl)); ((first | go_big_quiet_skip | (go_big_quiet_want; go_big_quiet_op; go_big_quiet_on)); refine wpQuiet_nil ?_)))))
  (refine rel_nil ?_; rintro _ ⟨mq, rfl⟩ hF; simp only [List.forall_mem_cons] at hF; obtain - := hF)
  go_wp2
  go_ret
  exact ⟨rfl, by (repeat (first | assumption | exact Grew.refl _ | refine Grew.more ?_ _ | refine Grew.alloc ?_ _ | refine Grew.drewN ?_ _ | refine Grew.setRow ?_ _ _ (by omega) | refine Grew.setRow ?_ _ _ (by simp; omega) | refine Grew.setRow ?_ _ _ (by simp)))⟩
end Go.Proofs.YtdihaffopfbnnaaDoor
