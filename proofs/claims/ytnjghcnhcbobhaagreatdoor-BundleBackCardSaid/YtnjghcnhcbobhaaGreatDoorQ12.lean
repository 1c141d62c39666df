/- Q12 -/
import Derived.Test.YtnjghcnhcbobhaaGreatDoorL12
import Derived.Test.YtnjghcnhcbobhaaGreatDoorQ9
set_option maxRecDepth 100000
set_option maxHeartbeats 4000000
namespace Go.Proofs.YtnjghcnhcbobhaaGreatDoor
open Go.RowKit
set_option linter.unusedVariables false
set_option linter.unusedSimpArgs false
theorem own_setRow {w : World} {base m n size : Nat} {e : TypeId} {v : Value} {xs : List Value} {cs : Array Value} (h : w.ownsRow base e size v n xs) (hm : m < base) : (w.setRow m cs).ownsRow base e size v n xs := by
 rcases h with ⟨h1, h2 | ⟨g, cap, cur, hv, hg, ho, rest⟩⟩
 ·exact ⟨h1, .inl h2⟩
 ·exact ⟨h1, .inr ⟨g, cap, cur, hv, hg, keep_setRow _ _ (show objAt w g = _ from ho) (by omega), rest⟩⟩
theorem append_keyG (W : World) (base : Nat) (v : Value) (n : Nat) (F : Nat → Nat → Int) (g2 : Nat) (t2 : TypeId) (fr : Nat × Nat) (own : W.ownsRow base 44 32 v n (k32L F n)) (hn : n ≤ 1048576)
  (hg2 : objAt W g2 = some (.cells (ints .u8 32 (F n)) t2 fr)) (hbW : base ≤ W.heap.size) :
  ∃ g cap w', (appendNext #[45, 45] 45 #[v, .slice (some ⟨g2, 0, none⟩) 1 1]).run Tryz.prog W = .ok (.value (.slice (some ⟨g, 0, none⟩) (n + 1) cap)) w' ∧ w'.ownsRow base 44 32 (.slice (some ⟨g, 0, none⟩) (n + 1) cap) (n + 1) (k32L F (n + 1)) ∧ W.grownBy w' v.ownBlock := by
 obtain ⟨i, z, hi, hz, hs, hby, hzs⟩ : ∃ i z, Tryz.prog.info? 44 = some i ∧ i.zero = some z ∧ i.size = 32 ∧ i.bytes = 32 ∧ z.cells.size = 32 := ⟨(Tryz.prog.info? 44).get (by kernel_rfl), ((Tryz.prog.info? 44).get (by kernel_rfl)).zero.get (by kernel_rfl), by kernel_rfl, by kernel_rfl, by kernel_rfl, by kernel_rfl, by kernel_rfl⟩
 obtain ⟨g, cap, w', hr, ho, hg, _, _⟩ := run_append_lies (P := Tryz.prog) W 45 45 base 44 i z 32 32 Tryz.underlying45 hi hz hs hby hzs (by decide) v n (k32L F n) own ⟨g2, 0, none⟩ 1 1 (ints .u8 32 (F n)).toList (by rw [Array.length_toList, ints_size])
  (fun j x hx => by
   rw [← addr_plain g2 j]
   unfold objAt at hg2
   rw [cell_of_row W g2 j _ _ _ hg2]
   rw [Array.getElem?_toList] at hx
   exact hx) (fun x hx => by
   have h1 := ints_ones .u8 32 (F n)
   rw [Array.all_eq_true'] at h1
   exact h1 x (by simpa using hx)) (by decide) (by unfold maxLen; omega) (by omega) hbW W.heap.size rfl
 refine ⟨g, cap, w', by unfold appendNext; simp only [Sem.run_bind, hr, Result.andThen_ok, Sem.run_pure], ?_, hg⟩
 rw [k32L_succ]
 exact ho
theorem make_keys (w : World) (base n : Nat) (hn : n ≤ 1048576) (hb : base ≤ w.heap.size) : ∃ w', (Instr.makeSlice 45 (.int .i64 0) (.int .i64 (n : Int))).run Tryz.prog w = .ok (.slice (some ⟨w.heap.size, 0, none⟩) 0 n) w' ∧ w'.ownsRow base 44 32 (.slice (some ⟨w.heap.size, 0, none⟩) 0 n) 0 [] ∧ w.grownBy w' none := by
 obtain ⟨i, z, hi, hz, hs, hby, hzs⟩ : ∃ i z, Tryz.prog.info? 44 = some i ∧ i.zero = some z ∧ i.size = 32 ∧ i.bytes = 32 ∧ z.cells.size = 32 := ⟨(Tryz.prog.info? 44).get (by kernel_rfl), ((Tryz.prog.info? 44).get (by kernel_rfl)).zero.get (by kernel_rfl), by kernel_rfl, by kernel_rfl, by kernel_rfl, by kernel_rfl, by kernel_rfl⟩
 exact run_make_own (P := Tryz.prog) w base 45 44 i z 32 Tryz.underlying45 hi hz hs .i64 .i64 n (by rw [hby]; omega) (by unfold maxLen; omega) hb
theorem climb_next' (k : Nat → Int) (P : Nat → Nat → Int) (j : Nat) : climbS k P (j + 1) = upF (climbS k P j) (P j) := rfl
theorem climb_yes' {k : Nat → Int} {P : Nat → Nat → Int} {j : Nat} (h : climbOK k P j = true) : climbOK k P (j + 1) = upOK (climbS k P j) (P j) := by
 simp only [climbOK, h, Bool.true_and]
attribute [local irreducible] nodeF labelF oneF macF shaF strOf keyV shV pubV upF upOK
theorem pof_any (k : Nat → Int) (w : World) (hk : Bytes 32 k) :
  Calls Tryz.prog 187 #[.agg (ints .u8 32 k)] w fun e w' => e = .returned (.agg (ints .u8 64 (keysF k (keyV (pubV k))))) ∧ Below w.heap.size w w' := by
 have c1 := fun W : World => base_pub k W hk
 generalize keyV (pubV k) = Z at *
 clear hk
 have hG := Grew.refl w
 have fk : True := trivial
 have fr : True := trivial
 go_enter Tryz.func187, Tryz.ntmps187
 go_wp2_with fail
 replace fk : objAt ((w.alloc (.cells (ints .u8 32 (k)) 44)).alloc (.cells (ints .u8 64 (keysF (nought) (nought))) 276)) (w.heap.size) = some (.cells (ints .u8 32 (k)) 44) := by exact keep_auto
 replace fr : objAt ((w.alloc (.cells (ints .u8 32 (k)) 44)).alloc (.cells (ints .u8 64 (keysF (nought) (nought))) 276)) (w.heap.size + 1) = some (.cells (ints .u8 64 (keysF (nought) (nought))) 276) := by exact keep_auto
 replace hG : Below w.heap.size w ((w.alloc (.cells (ints .u8 32 (k)) 44)).alloc (.cells (ints .u8 64 (keysF (nought) (nought))) 276)) := by exact grew_auto
 generalize (w.alloc (.cells (ints .u8 32 (k)) 44)).alloc (.cells (ints .u8 64 (keysF (nought) (nought))) 276) = w1 at *
 have lfk := lt_of_objAt fk
 have lfr := lt_of_objAt fr
 go_wp2_with fail
 ((first | (with_reducible refine wp_region_tail_on 4 (by kernel_rfl) (by kernel_rfl) (by kernel_rfl) (by kernel_rfl) (by kernel_rfl) ?_) | refine wp_region_tail_more 4 (by kernel_rfl) (by kernel_rfl) (by kernel_rfl) (by kernel_rfl) (by kernel_rfl) ?_); simp only [List.take_succ_cons, List.take_zero]; (repeat (first | go_big_quiet_skip | (go_big_quiet_want; go_big_quiet_op; first | go_big_quiet_on | (apply Exists.intro; refine ⟨fun _ => ?_, ?_⟩; (focus (first | (with_reducible exact Calls.of_more (c1 _)))); go_big_quiet_on)))); refine wpQuiet_nil ?_; rintro _ ⟨mq, rfl⟩)
 (refine tail_one (i := 4) (fuel := 0) (by kernel_rfl) rfl ?_; intro K hK; go_simp; refine hK _ _ ?_; clear hK K)
 (refine wpAny_done (by kernel_rfl) ?_ _)
 go_wp2
 refine ret_row rfl _ 276 _ (0, 0) _ rfl (keep_more _ (keep_row _ fr)) Tryz.underlying276 rfl (by rw [ints_size]; kernel_rfl) rfl ⟨rfl, by exact grew_auto⟩
theorem ofC : OfC := fun k W hk => pof_any k W hk
theorem right_any (x z : Nat → Int) (w : World) (hx : Bytes 32 x) (hz : Bytes 32 z) :
  Calls Tryz.prog 220 #[.agg (ints .u8 64 (keysF x z))] w fun e w' => e = .returned (.bool (same 32 z (keyV (pubV x)))) ∧ Below w.heap.size w w' := by
 have c1 := fun W : World => base_pub x W hx
 have c2 := fun W : World => same_any z (keyV (pubV x)) W hz (keyV_bytes _)
 generalize keyV (pubV x) = Z at *
 clear hx hz
 have hG := Grew.refl w
 have fp : True := trivial
 go_enter Tryz.func220, Tryz.ntmps220
 go_wp2_with fail
 replace fp : objAt (w.alloc (.cells (ints .u8 64 (keysF (x) (z))) 276)) (w.heap.size) = some (.cells (ints .u8 64 (keysF (x) (z))) 276) := by exact keep_auto
 replace hG : Below w.heap.size w (w.alloc (.cells (ints .u8 64 (keysF (x) (z))) 276)) := by exact grew_auto
 generalize w.alloc (.cells (ints .u8 64 (keysF (x) (z))) 276) = w1 at *
 have lfp := lt_of_objAt fp
 go_wp2_with fail
 ((first | (with_reducible refine wp_region_on (by kernel_rfl) (by kernel_rfl) ?_) | refine wp_region_more (by kernel_rfl) (by kernel_rfl) ?_); (repeat (first | go_big_quiet_skip | (go_big_quiet_want; go_big_quiet_op; first | go_big_quiet_on | (apply Exists.intro; refine ⟨fun _ => ?_, ?_⟩; (focus (first | (with_reducible exact Calls.of_more (c1 _)) | (with_reducible exact Calls.of_more (c2 _)))); go_big_quiet_on)))); refine wpQuiet_nil ?_; rintro _ ⟨mq, rfl⟩)
 have hG2 := Grew.more hG mq
 generalize more w1 mq = w2 at *
 go_wp2
 go_ret
 exact ⟨rfl, hG2⟩
theorem rightC : RightC := fun x z W hx hz => right_any x z W hx hz
theorem pup_any (k p : Nat → Int) (w : World) (hk : Bytes 32 k) (hp : Bytes 32 p) (hT : Tabs w) :
  Calls Tryz.prog 201 #[.agg (ints .u8 32 k), .agg (ints .u8 32 p)] w fun e w' => e = .returned (.tuple #[.agg (ints .u8 32 (upF k p)), .bool (upOK k p)]) ∧ Below w.heap.size w w' := by
 have hTT : Hid (Tabs w) := hT
 clear hT
 have c1 := fun W : World => shared_any k p W hk hp rfl
 have c2 := fun (W : World) (h : Tabs W) => pnode_any (keyV (shV k p)) W h
 unfold upOK upF
 generalize keyV (shV k p) = Z at *
 clear hk hp
 by_cases hz : shV k p = 0
 ·rw [if_pos hz]
  rw [decide_eq_true hz] at c1 ⊢
  clear hz c2
  generalize shV k p = V at *
  have hG := Grew.refl w
  have fk : True := trivial
  have fp : True := trivial
  have fr : True := trivial
  go_enter Tryz.func201, Tryz.ntmps201
  go_wp2_with fail
  replace fk : objAt (((w.alloc (.cells (ints .u8 32 (k)) 44)).alloc (.cells (ints .u8 32 (p)) 44)).alloc (.cells (ints .u8 32 (nought)) 44)) (w.heap.size) = some (.cells (ints .u8 32 (k)) 44) := by exact keep_auto
  replace fp : objAt (((w.alloc (.cells (ints .u8 32 (k)) 44)).alloc (.cells (ints .u8 32 (p)) 44)).alloc (.cells (ints .u8 32 (nought)) 44)) (w.heap.size + 1) = some (.cells (ints .u8 32 (p)) 44) := by exact keep_auto
  replace fr : objAt (((w.alloc (.cells (ints .u8 32 (k)) 44)).alloc (.cells (ints .u8 32 (p)) 44)).alloc (.cells (ints .u8 32 (nought)) 44)) (w.heap.size + 1 + 1) = some (.cells (ints .u8 32 (nought)) 44) := by exact keep_auto
  replace hG : Below w.heap.size w (((w.alloc (.cells (ints .u8 32 (k)) 44)).alloc (.cells (ints .u8 32 (p)) 44)).alloc (.cells (ints .u8 32 (nought)) 44)) := by exact grew_auto
  generalize ((w.alloc (.cells (ints .u8 32 (k)) 44)).alloc (.cells (ints .u8 32 (p)) 44)).alloc (.cells (ints .u8 32 (nought)) 44) = w1 at *
  have lfk := lt_of_objAt fk
  have lfp := lt_of_objAt fp
  have lfr := lt_of_objAt fr
  go_wp2_with fail
  (refine (c1 _).mono ?_; rintro e w2 ⟨rfl, hb⟩; replace fk : objAt w2 (w.heap.size) = some (.cells (ints .u8 32 (k)) 44) := keep_below hb (by exact keep_auto); have lfk := lt_of_objAt fk; replace fp : objAt w2 (w.heap.size + 1) = some (.cells (ints .u8 32 (p)) 44) := keep_below hb (by exact keep_auto); have lfp := lt_of_objAt fp; replace fr : objAt w2 (w.heap.size + 1 + 1) = some (.cells (ints .u8 32 (nought)) 44) := keep_below hb (by exact keep_auto); have lfr := lt_of_objAt fr; replace hG : Below w.heap.size w w2 := Grew.trans (by exact grew_auto) hb; clear hb)
  go_wp2
  refine ret_key_tmp rfl _ 44 (ints .u8 32 nought) (0, 0) _ _ rfl rfl (by exact keep_auto) Tryz.underlying44 rfl (by rw [ints_size]; kernel_rfl) rfl ⟨rfl, by exact grew_auto⟩
 ·rw [if_neg hz]
  rw [decide_eq_false hz] at c1 ⊢
  clear hz
  generalize shV k p = V at *
  generalize nodeF Z = N1 at *
  have hG := Grew.refl w
  have fk : True := trivial
  have fp : True := trivial
  have fr : True := trivial
  go_enter Tryz.func201, Tryz.ntmps201
  go_wp2_with fail
  replace fk : objAt (((w.alloc (.cells (ints .u8 32 (k)) 44)).alloc (.cells (ints .u8 32 (p)) 44)).alloc (.cells (ints .u8 32 (nought)) 44)) (w.heap.size) = some (.cells (ints .u8 32 (k)) 44) := by exact keep_auto
  replace fp : objAt (((w.alloc (.cells (ints .u8 32 (k)) 44)).alloc (.cells (ints .u8 32 (p)) 44)).alloc (.cells (ints .u8 32 (nought)) 44)) (w.heap.size + 1) = some (.cells (ints .u8 32 (p)) 44) := by exact keep_auto
  replace fr : objAt (((w.alloc (.cells (ints .u8 32 (k)) 44)).alloc (.cells (ints .u8 32 (p)) 44)).alloc (.cells (ints .u8 32 (nought)) 44)) (w.heap.size + 1 + 1) = some (.cells (ints .u8 32 (nought)) 44) := by exact keep_auto
  replace hG : Below w.heap.size w (((w.alloc (.cells (ints .u8 32 (k)) 44)).alloc (.cells (ints .u8 32 (p)) 44)).alloc (.cells (ints .u8 32 (nought)) 44)) := by exact grew_auto
  generalize ((w.alloc (.cells (ints .u8 32 (k)) 44)).alloc (.cells (ints .u8 32 (p)) 44)).alloc (.cells (ints .u8 32 (nought)) 44) = w1 at *
  have lfk := lt_of_objAt fk
  have lfp := lt_of_objAt fp
  have lfr := lt_of_objAt fr
  go_wp2_with fail
  (refine (c1 _).mono ?_; rintro e w2 ⟨rfl, hb⟩; replace fk : objAt w2 (w.heap.size) = some (.cells (ints .u8 32 (k)) 44) := keep_below hb (by exact keep_auto); have lfk := lt_of_objAt fk; replace fp : objAt w2 (w.heap.size + 1) = some (.cells (ints .u8 32 (p)) 44) := keep_below hb (by exact keep_auto); have lfp := lt_of_objAt fp; replace fr : objAt w2 (w.heap.size + 1 + 1) = some (.cells (ints .u8 32 (nought)) 44) := keep_below hb (by exact keep_auto); have lfr := lt_of_objAt fr; replace hG : Below w.heap.size w w2 := Grew.trans (by exact grew_auto) hb; clear hb)
  go_wp2_with fail
  have fz : objAt (w2.alloc (.cells (ints .u8 32 (Z)) 44)) w2.heap.size = some (.cells (ints .u8 32 (Z)) 44) := objAt_alloc_at _ _ _ rfl
  replace fk : objAt (w2.alloc (.cells (ints .u8 32 (Z)) 44)) (w.heap.size) = some (.cells (ints .u8 32 (k)) 44) := keep_alloc _ fk
  replace fp : objAt (w2.alloc (.cells (ints .u8 32 (Z)) 44)) (w.heap.size + 1) = some (.cells (ints .u8 32 (p)) 44) := keep_alloc _ fp
  replace fr : objAt (w2.alloc (.cells (ints .u8 32 (Z)) 44)) (w.heap.size + 1 + 1) = some (.cells (ints .u8 32 (nought)) 44) := keep_alloc _ fr
  replace hG : Below w.heap.size w (w2.alloc (.cells (ints .u8 32 (Z)) 44)) := Grew.alloc hG _
  clear lfk lfp lfr
  generalize w2.alloc (.cells (ints .u8 32 (Z)) 44) = w3 at *
  generalize w2.heap.size = gz at *
  have lfk := lt_of_objAt fk
  have lfp := lt_of_objAt fp
  have lfr := lt_of_objAt fr
  have lfz := lt_of_objAt fz
  go_wp2_with fail
  (refine (c2 _ (hTT.out.later hG)).mono ?_; rintro e w4 ⟨rfl, hb⟩; replace fk : objAt w4 (w.heap.size) = some (.cells (ints .u8 32 (k)) 44) := keep_below hb (by exact keep_auto); have lfk := lt_of_objAt fk; replace fp : objAt w4 (w.heap.size + 1) = some (.cells (ints .u8 32 (p)) 44) := keep_below hb (by exact keep_auto); have lfp := lt_of_objAt fp; replace fr : objAt w4 (w.heap.size + 1 + 1) = some (.cells (ints .u8 32 (nought)) 44) := keep_below hb (by exact keep_auto); have lfr := lt_of_objAt fr; replace fz : objAt w4 (gz) = some (.cells (ints .u8 32 (Z)) 44) := keep_below hb (by exact keep_auto); have lfz := lt_of_objAt fz; replace hG : Below w.heap.size w w4 := Grew.trans (by exact grew_auto) hb; clear hb)
  go_wp2
  refine ret_key_tmp rfl _ 44 (ints .u8 32 N1) (0, 0) _ _ rfl rfl (by exact keep_auto) Tryz.underlying44 rfl (by rw [ints_size]; kernel_rfl) rfl ⟨rfl, by exact grew_auto⟩
def KeyRow (w : World) (oa : Option Addr) : Prop := ∀ ad, oa = some ad → ∃ cur fr, objAt w ad.block = some (.cells cur 44 fr)
theorem KeyRow.later {w w' : World} {oa : Option Addr} (h : KeyRow w oa) (hb : Below w.heap.size w w') : KeyRow w' oa := fun ad e => by
 obtain ⟨cur, fr, h1⟩ := h ad e
 exact ⟨cur, fr, keep_below hb h1⟩
theorem keyRow_of_own {w : World} {base n : Nat} {v : Value} {xs : List Value} (h : w.ownsRow base 44 32 v n xs) {oa : Option Addr} {m c : Nat} (e : v = .slice oa m c) : KeyRow w oa := fun ad e1 => by
 subst e e1
 rcases h.2 with ⟨h1, _⟩ | ⟨g, cap, cur, h1, _, hg, _⟩
 ·cases h1
 ·cases h1
  exact ⟨cur, _, hg⟩
def SecAt (w : World) (oa : Option Addr) (n : Nat) (F : Nat → Nat → Int) : Prop := K32At w oa n F ∧ KeyRow w oa
theorem SecAt.later {w w' : World} {oa : Option Addr} {n : Nat} {F : Nat → Nat → Int} (h : SecAt w oa n F) (hb : Below w.heap.size w w') : SecAt w' oa n F := ⟨h.1.later hb, h.2.later hb⟩
def RetSec (w : World) (n : Nat) (F : Nat → Nat → Int) (e : Ending) (w' : World) : Prop := ∃ oa c, e = .returned (.slice oa n c) ∧ SecAt w' oa n F ∧ Below w.heap.size w w'
def RetClimbK (w : World) (k : Nat → Int) (P : Nat → Nat → Int) (n : Nat) (e : Ending) (w' : World) : Prop := RetClimb w k P n e w' ∧ ∀ oa m c, e = .returned (.tuple #[.slice oa m c, .bool true]) → KeyRow w' oa
theorem pclimbK_any (k : Nat → Int) (P : Nat → Nat → Int) (oa : Option Addr) (n c : Nat) (w : World) (hk : Bytes 32 k) (hn : n ≤ 1000) (hP : ∀ i, i < n → Bytes 32 (P i)) (hK : K32At w oa n P) (hT : Tabs w) :
  Calls Tryz.prog 190 #[.agg (ints .u8 32 k), .slice oa n c] w (RetClimbK w k P n) := by
 have HK : Hid (K32At w oa n P) := hK
 have hTT : Hid (Tabs w) := hT
 have hU : Hid (∀ (j : Nat) (W : World), j < n → Tabs W → Calls Tryz.prog 201 #[.agg (ints .u8 32 (climbS k P j)), .agg (ints .u8 32 (P j))] W fun e w' => e = .returned (.tuple #[.agg (ints .u8 32 (climbS k P (j + 1))), .bool (upOK (climbS k P j) (P j))]) ∧ Below W.heap.size W w') := fun j W hj h => by
  rw [climb_next']
  exact pup_any _ _ W (climb_bytes k P hk j) (hP j hj) h
 have hN : Hid (∀ j, j ≤ n → climbOK k P j = false → climbOK k P n = false) := fun j hj h => climb_not k P h n hj
 have hY : Hid (∀ j, climbOK k P j = true → climbOK k P (j + 1) = upOK (climbS k P j) (P j)) := fun j h => climb_yes' h
 have hO : Hid (climbOK k P 0 = true) := rfl
 have hS0 : Hid (climbS k P 0 = k) := rfl
 have hRC : Hid (∀ (e : Ending) (w' : World), Below w.heap.size w w' → ((climbOK k P n = true ∧ ∃ oa c, e = .returned (.tuple #[.slice oa (n + 1) c, .bool true]) ∧ n + 1 ≤ c ∧ K32At w' oa (n + 1) (climbS k P) ∧ KeyRow w' oa) ∨ (climbOK k P n = false ∧ e = .returned (.tuple #[.slice none 0 0, .bool false]))) → RetClimbK w k P n e w') := fun e w' h1 h2 => by
  rcases h2 with ⟨a, oa, c, rfl, b, d, f⟩ | ⟨a, rfl⟩
  ·exact ⟨⟨h1, .inl ⟨a, oa, c, rfl, b, d⟩⟩, fun oa' m c' e => by cases e; exact f⟩
  ·exact ⟨⟨h1, .inr ⟨a, rfl⟩⟩, fun oa' m c' e => by simp at e⟩
 generalize RetClimbK w k P n = RC at *
 generalize hOKg : climbOK k P = OKF at *
 generalize hSg : climbS k P = S at *
 clear hOKg hSg hK hk hP hT
 have hG := Grew.refl w
 go_enter Tryz.func190, Tryz.ntmps190
 have fk : objAt (w.alloc (.cells (ints .u8 32 (k)) 44)) w.heap.size = some (.cells (ints .u8 32 (k)) 44) := objAt_alloc_at _ _ _ rfl
 have hG1 : Below w.heap.size w (w.alloc (.cells (ints .u8 32 (k)) 44)) := Grew.alloc hG _
 have hz1 : (w.alloc (.cells (ints .u8 32 (k)) 44)).heap.size = w.heap.size + 1 := by simp
 obtain ⟨w1, hw1⟩ : ∃ w1, Hid (w.alloc (.cells (ints .u8 32 (k)) 44) = w1) := ⟨_, rfl⟩
 rw [hw1.out] at fk hG1 hz1
 obtain ⟨w2, hr2, own2, hg2⟩ := make_keys w1 (w.heap.size + 1) (n + 1) (by omega) (by omega)
 rw [show ((n + 1 : Nat) : Int) = (n : Int) + 1 by omega, hz1] at hr2
 rw [hz1] at own2
 have fk2 : objAt w2 w.heap.size = some (.cells (ints .u8 32 (k)) 44) := (hg2.block _ (by omega) (by intro e; cases e)).trans fk
 have hG2 : Below w.heap.size w w2 := hG1.grown hg2 hG1.size (fun k hk => by cases hk)
 have hz2 := lt_of_objAt fk2
 have hz3 := hg2.size
 obtain ⟨g3, c3, w3, hr3, own3, hg3⟩ := append_keyG (w2.alloc (.cells (ints .u8 32 (k)) 44)) (w.heap.size + 1) (.slice (some ⟨w.heap.size + 1, 0, none⟩) 0 (n + 1)) 0 S w2.heap.size _ (0, 0) (World.ownsRow.alloc own2 _) (by omega) (by rw [hS0.out]; exact objAt_alloc_at _ _ _ rfl) (by simp; omega)
 have fk3 : objAt w3 w.heap.size = some (.cells (ints .u8 32 (k)) 44) := (hg3.block _ (by simp; omega) (by intro e; have := (own2.lt _ e.symm).1; omega)).trans (keep_alloc _ fk2)
 have hG3 : Below w.heap.size w w3 := (Grew.alloc hG2 _).grown hg3 (by simp; omega) (fun k hk => by have := (own2.lt _ hk).1; omega)
 have OWN0 : Hid (w3.ownsRow (w.heap.size + 1) 44 32 (.slice (some ⟨g3, 0, none⟩) 1 c3) (0 + 1) (k32L S (0 + 1))) := own3
 replace hr3 : (appendNext #[45, 45] 45 #[.slice (some ⟨w.heap.size + 1, 0, none⟩) 0 (n + 1), .slice (some ⟨w2.heap.size, 0, none⟩) 1 1]).run Tryz.prog (w2.alloc (.cells (ints .u8 32 (k)) 44)) = .ok (.value (.slice (some ⟨g3, 0, none⟩) 1 c3)) w3 := hr3
 rw [← hw1.out] at hr2
 clear own2 own3 hg2 hg3 hw1 fk hG1 hz1 hG
 go_wp2_with fail
 rw [← hS0.out] at fk3
 clear hr2 hr3 fk2 hz2 hz3 hG2 hS0
 go_loopw [21, 6, 8, 9, 10] (fun i v _ _ _ wr => ∃ (j : Nat) (v0 : Value), v0 = v ∧ j ≤ n ∧ i = .int .i64 j ∧ Below w.heap.size w wr ∧ OKF j = true ∧ objAt wr w.heap.size = some (.cells (ints .u8 32 (S j)) 44) ∧ Hid (wr.ownsRow (w.heap.size + 1) 44 32 v0 (j + 1) (k32L S (j + 1)))) (fun i _ _ _ _ _ => n - (intOf i).toNat)
 case atStart => exact ⟨0, _, rfl, by omega, rfl, hG3, hO.out, fk3, OWN0⟩
 case round =>
  clear OWN0 hG3 fk3
  obtain ⟨j, v0, rfl, hj, rfl, hM, hok, fk, OWN⟩ := hrel
  have lfk := lt_of_objAt fk
  by_cases hlt : j < n
  ·obtain ⟨ad, rfl⟩ := HK.out.addr (by omega)
   have l1 := HK.out.loadK hlt hM
   have hi1 : (j : Int) < (n : Int) := by omega
   have hi0 : (0 : Int) ≤ (j : Int) := by omega
   have c1 := fun W => hU.out j W hlt
   have hsz := hM.size
   have hnx := hY.out j hok
   have hfl := hN.out (j + 1) (by omega)
   generalize upOK (S j) (P j) = b at *
   clear hU hN hY hO
   go_wp2_with fail
   have hM4 : Below w.heap.size w (wr.alloc (.cells (ints .u8 32 (P j)) 44)) := Grew.alloc hM _
   have fk4 : objAt (wr.alloc (.cells (ints .u8 32 (P j)) 44)) w.heap.size = some (.cells (ints .u8 32 (S j)) 44) := keep_alloc _ fk
   have OWN4 : Hid ((wr.alloc (.cells (ints .u8 32 (P j)) 44)).ownsRow (w.heap.size + 1) 44 32 v0 (j + 1) (k32L S (j + 1))) := World.ownsRow.alloc OWN.out _
   clear l1 hM fk OWN lfk
   generalize wr.alloc (.cells (ints .u8 32 (P j)) 44) = w4 at *
   refine (c1 _ (hTT.out.later hM4)).mono ?_
   rintro e w5 ⟨rfl, hb5⟩
   have hM2 : Below w.heap.size w w5 := Grew.trans hM4 hb5
   have fk5 := keep_below hb5 fk4
   have OWN2 : Hid (w5.ownsRow (w.heap.size + 1) 44 32 v0 (j + 1) (k32L S (j + 1))) := own_later OWN4.out hb5
   clear hb5 fk4 OWN4 hM4 c1
   have lfk := lt_of_objAt fk5
   have hsz2 := hM2.size
   cases b
   ·have hfn := hfl hnx
    clear hfl hnx OWN2
    go_wp2
    (try go_ret2)
    exact hRC.out _ _ (by exact grew_auto) (.inr ⟨hfn, rfl⟩)
   ·clear hfl
    have o5 : ∀ k, v0.ownBlock = some k → w.heap.size + 1 ≤ k ∧ k < w5.heap.size := OWN2.out.lt
    obtain ⟨g3, c3, w6, hr3, own3, hg3⟩ := append_keyG ((w5.alloc (.cells (ints .u8 32 (S (j + 1))) 44)).alloc (.cells (ints .u8 32 (S (j + 1))) 44)) (w.heap.size + 1) v0 (j + 1) S (w5.heap.size + 1) _ (0, 0) (World.ownsRow.alloc (World.ownsRow.alloc OWN2.out _) _) (by omega) (objAt_alloc_at _ _ _ (by simp)) (by simp; omega)
    have fk3 : objAt w6 w.heap.size = some (.cells (ints .u8 32 (S j)) 44) := (hg3.block _ (by simp; omega) (by intro e; have := o5 _ e.symm; omega)).trans (keep_alloc _ (keep_alloc _ fk5))
    have fp3 : objAt w6 w5.heap.size = some (.cells (ints .u8 32 (S (j + 1))) 44) := (hg3.block _ (by simp; omega) (by intro e; have := o5 _ e.symm; omega)).trans (keep_alloc _ (objAt_alloc_at _ _ _ rfl))
    have hb3 : Below w.heap.size w w6 := (Grew.alloc (Grew.alloc hM2 _) _).grown hg3 (by simp; omega) (fun k hk => by have := o5 _ hk; omega)
    have OWN3 : Hid ((w6.setRow w.heap.size (ints .u8 32 (S (j + 1)))).ownsRow (w.heap.size + 1) 44 32 (.slice (some ⟨g3, 0, none⟩) (j + 1 + 1) c3) (j + 1 + 1) (k32L S (j + 1 + 1))) := own_setRow own3 (by omega)
    have lfk3 := lt_of_objAt fk3
    have lfp3 := lt_of_objAt fp3
    clear own3 OWN2 hg3 o5
    go_wp2
    go_roundw
    case rel => first | exact ⟨j + 1, _, rfl, by omega, by go_num, Grew.setRow hb3 _ _ (Nat.le_refl _), hnx, keep_row _ fk3, OWN3⟩ | ((repeat' apply Exists.intro) <;> first | exact ⟨⟨j + 1, _, rfl, by omega, by go_num, Grew.setRow hb3 _ _ (Nat.le_refl _), hnx, keep_row _ fk3, OWN3⟩, rfl⟩ | exact undef)
    case measure => (simp [intOf] <;> omega)
  ·obtain rfl : j = n := by omega
   obtain ⟨oa2, c2, rfl, hc2, hK2⟩ := k32_of_own OWN.out
   have HK2 : Hid (K32At wr oa2 (j + 1) S) := hK2
   have Hc2 : Hid (j + 1 ≤ c2) := hc2
   have Hok : Hid (OKF j = true) := hok
   have HR2 : Hid (KeyRow wr oa2) := keyRow_of_own OWN.out rfl
   clear hK2 OWN hc2 hok
   go_wp2
   (try go_ret2)
   exact hRC.out _ _ hM (.inl ⟨Hok.out, oa2, c2, rfl, Hc2.out, HK2.out, HR2.out⟩)
theorem pclimb_any (k : Nat → Int) (P : Nat → Nat → Int) (oa : Option Addr) (n c : Nat) (w : World) (hk : Bytes 32 k) (hn : n ≤ 1000) (hP : ∀ i, i < n → Bytes 32 (P i)) (hK : K32At w oa n P) (hT : Tabs w) :
  Calls Tryz.prog 190 #[.agg (ints .u8 32 k), .slice oa n c] w (RetClimb w k P n) := (pclimbK_any k P oa n c w hk hn hP hK hT).mono fun _ _ h => h.1
theorem climbK_ok {f : FuncId} {args : Array Value} {W : World} {k : Nat → Int} {P : Nat → Nat → Int} {n : Nat} (h : Calls Tryz.prog f args W (RetClimbK W k P n)) (ho : climbOK k P n = true) :
  Calls Tryz.prog f args W fun e w' => ∃ oa c, e = .returned (.tuple #[.slice oa (n + 1) c, .bool true]) ∧ n + 1 ≤ c ∧ K32At w' oa (n + 1) (climbS k P) ∧ KeyRow w' oa ∧ Below W.heap.size W w' := by
 refine h.mono ?_
 rintro e w' ⟨⟨hb, ⟨_, oa, c, he, hc, hK⟩ | ⟨h2, _⟩⟩, hr⟩
 ·exact ⟨oa, c, he, hc, hK, hr _ _ _ he, hb⟩
 ·rw [ho] at h2; cases h2
theorem climbC : ClimbC := fun k P oa n c W hk hn hP hK hT => pclimb_any k P oa n c W hk hn hP hK hT
end Go.Proofs.YtnjghcnhcbobhaaGreatDoor
