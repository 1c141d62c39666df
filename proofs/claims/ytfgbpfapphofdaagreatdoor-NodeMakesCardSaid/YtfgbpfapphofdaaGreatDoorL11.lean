/- L11 -/
import Derived.Test.YtfgbpfapphofdaaGreatDoorR11
import Derived.Test.YtfgbpfapphofdaaGreatDoorTb
import Derived.Test.YtfgbpfapphofdaaGreatDoorR10
import Derived.Deep.RegionHeld3
set_option maxRecDepth 100000
set_option maxHeartbeats 4000000
namespace Go.Proofs.YtfgbpfapphofdaaGreatDoor
open Go.RowKit
set_option linter.unusedVariables false
set_option linter.unusedSimpArgs false
theorem same1_any (f s : Nat) (w : World) :
  Calls Tryz.prog 39 #[.agg #[.int .i64 (f : Int), .int .i64 (s : Int)], .agg #[.int .i64 (f : Int), .int .i64 (s : Int)]] w fun e w' => e = .returned (.bool true) ∧ Below w.heap.size w w' := by
 have hG := Grew.refl w
 go_enter Tryz.func39, Tryz.ntmps39
 go_wp2
 go_ret
 exact ⟨rfl, by exact grew_auto⟩
theorem equal_same (oa ob : Option Addr) (c d : Nat) (L : List Nd) (w : World) (hA : NdsAt w oa L) (hB : NdsAt w ob L) (hL : L.length ≤ 100000) :
  Calls Tryz.prog 25 #[.slice oa L.length c, .slice ob L.length d] w fun e w' => e = .returned (.bool true) ∧ Below w.heap.size w w' := by
 have HA : Hid (NdsAt w oa L) := hA
 have HB : Hid (NdsAt w ob L) := hB
 clear hA hB
 go_enter Tryz.func25, Tryz.ntmps25
 go_wp2_with fail
 go_loopw [13, 5] (fun i _ wr => ∃ k : Nat, k ≤ L.length ∧ i = .int .i64 k ∧ Below w.heap.size w wr) (fun i _ _ => L.length - (intOf i).toNat)
 case atStart => exact ⟨0, by omega, rfl, Grew.refl _⟩
 case round =>
  obtain ⟨k, hk, rfl, hM⟩ := hrel
  by_cases hlt : k < L.length
  ·obtain ⟨u, hu⟩ : ∃ u, L[k]? = some u := ⟨_, List.getElem?_eq_getElem hlt⟩
   rcases HA.out.later hM with h0 | ⟨g, o, rfl, hg, hl⟩
   ·subst h0; simp at hlt
   obtain ⟨l1, l2⟩ := hl k u hu
   have l1' : cellOf (objAt wr g) (o + k * 2) = some (.int .i64 u.f) := by rw [Nat.mul_comm]; exact l1
   have l2' : cellOf (objAt wr g) (o + k * 2 + 1) = some (.int .i64 u.s) := by rw [Nat.mul_comm]; exact l2
   rcases HB.out.later hM with h0 | ⟨g', o', rfl, hg', hl'⟩
   ·subst h0; simp at hlt
   obtain ⟨m1, m2⟩ := hl' k u hu
   have m1' : cellOf (objAt wr g') (o' + k * 2) = some (.int .i64 u.f) := by rw [Nat.mul_comm]; exact m1
   have m2' : cellOf (objAt wr g') (o' + k * 2 + 1) = some (.int .i64 u.s) := by rw [Nat.mul_comm]; exact m2
   have hi1 : (k : Int) < (L.length : Int) := by omega
   have hi0 : (0 : Int) ≤ (k : Int) := by omega
   clear hl hl' l1 l2 m1 m2
   go_wp2_with fail
   ((first | (with_reducible refine wp_region_on (by kernel_rfl) (by kernel_rfl) ?_) | refine wp_region_more (by kernel_rfl) (by kernel_rfl) ?_); (repeat (first | go_big_quiet_skip | (go_big_quiet_want; go_big_quiet_op; first | go_big_quiet_on | (apply Exists.intro; refine ⟨fun _ => ?_, ?_⟩; (focus (fail)); go_big_quiet_on)))); refine wpQuiet_nil ?_; rintro _ ⟨mq, rfl⟩)
   have hM2 := Grew.trans hM (below_more wr mq)
   generalize more wr mq = w2 at *
   go_wp2
   go_roundw
   case rel => first | exact ⟨k + 1, by omega, by go_num, hM2⟩ | ((repeat' apply Exists.intro) <;> first | exact ⟨⟨k + 1, by omega, by go_num, hM2⟩, rfl⟩ | exact undef)
   case measure => (simp [intOf] <;> omega)
  ·obtain rfl : k = L.length := by omega
   go_wp2
   go_ret
   exact ⟨rfl, hM⟩
theorem slindex_any (oa : Option Addr) (c : Nat) (f s : Nat) (L : List Nd) (w : World) (hA : NdsAt w oa L) (hL : L.length ≤ 100000) :
  Calls Tryz.prog 24 #[.slice oa L.length c, .agg #[.int .i64 (f : Int), .int .i64 (s : Int)]] w fun e w' => e = .returned (.int .i64 (idxN f s L 0)) ∧ Below w.heap.size w w' := by
 have HA : Hid (NdsAt w oa L) := hA
 have hR : Hid (idxN f s (L.drop 0) 0 = idxN f s L 0) := by show _ = _; rw [List.drop_zero]
 obtain ⟨R, hRe⟩ : ∃ R, idxN f s L 0 = R := ⟨_, rfl⟩
 rw [hRe] at hR ⊢
 clear hRe hA
 go_enter Tryz.func24, Tryz.ntmps24
 go_wp2_with fail
 go_loopw [8, 5] (fun i _ wr => ∃ k : Nat, k ≤ L.length ∧ i = .int .i64 k ∧ Below w.heap.size w wr ∧ objAt wr w.heap.size = some (.cells #[.int .i64 f, .int .i64 s] 23) ∧ Hid (idxN f s (L.drop k) k = R)) (fun i _ _ => L.length - (intOf i).toNat)
 case atStart => exact ⟨0, by omega, rfl, Grew.alloc (Grew.refl _) _, by exact keep_auto, hR⟩
 case round =>
  clear hR
  obtain ⟨k, hk, rfl, hM, fb2, hI⟩ := hrel
  have lb2 := lt_of_objAt fb2
  by_cases hlt : k < L.length
  ·obtain ⟨u, hu⟩ : ∃ u, L[k]? = some u := ⟨_, List.getElem?_eq_getElem hlt⟩
   rcases HA.out.later hM with h0 | ⟨g, o, rfl, hg, hl⟩
   ·subst h0; simp at hlt
   obtain ⟨l1, l2⟩ := hl k u hu
   have l1' : cellOf (objAt wr g) (o + k * 2) = some (.int .i64 u.f) := by rw [Nat.mul_comm]; exact l1
   have l2' : cellOf (objAt wr g) (o + k * 2 + 1) = some (.int .i64 u.s) := by rw [Nat.mul_comm]; exact l2
   have hi1 : (k : Int) < (L.length : Int) := by omega
   have hi0 : (0 : Int) ≤ (k : Int) := by omega
   have hM2 := fun mq => Grew.trans hM (below_more wr mq)
   by_cases he : u.f = f ∧ u.s = s
   ·have e := hI.out
    rw [idx_hit hu he] at e
    obtain ⟨he1, he2⟩ := he
    have hee1 : (f : Int) = (u.f : Int) := by omega
    have hee2 : (s : Int) = (u.s : Int) := by omega
    subst e
    clear hI hl l1 l2 he1 he2
    go_wp2_with fail
    ((first | (with_reducible refine wp_region_on (by kernel_rfl) (by kernel_rfl) ?_) | refine wp_region_more (by kernel_rfl) (by kernel_rfl) ?_); (repeat (first | go_big_quiet_skip | (go_big_quiet_want; go_big_quiet_op; first | go_big_quiet_on | (apply Exists.intro; refine ⟨fun _ => ?_, ?_⟩; (focus (fail)); go_big_quiet_on)))); refine wpQuiet_nil ?_; rintro _ ⟨mq, rfl⟩)
    go_wp2
    go_ret
    exact ⟨rfl, hM2 mq⟩
   ·have e := hI.out
    rw [idx_next hu he] at e
    have E : Hid (idxN f s (L.drop (k + 1)) (k + 1) = R) := e
    have hnn : (f : Int) = (u.f : Int) → ¬ ((s : Int) = (u.s : Int)) := fun a b => he ⟨by omega, by omega⟩
    clear hI hl e l1 l2
    by_cases he1 : (f : Int) = (u.f : Int)
    ·have he2 := hnn he1
     clear hnn
     go_wp2_with fail
     ((first | (with_reducible refine wp_region_on (by kernel_rfl) (by kernel_rfl) ?_) | refine wp_region_more (by kernel_rfl) (by kernel_rfl) ?_); (repeat (first | go_big_quiet_skip | (go_big_quiet_want; go_big_quiet_op; first | go_big_quiet_on | (apply Exists.intro; refine ⟨fun _ => ?_, ?_⟩; (focus (fail)); go_big_quiet_on)))); refine wpQuiet_nil ?_; rintro _ ⟨mq, rfl⟩)
     have fb3 := keep_more mq fb2
     have hM3 := hM2 mq
     clear hM2 fb2 l1' l2'
     generalize more wr mq = w3 at *
     go_wp2
     go_roundw
     case rel => first | exact ⟨k + 1, by omega, by go_num, hM3, fb3, E⟩ | ((repeat' apply Exists.intro) <;> first | exact ⟨⟨k + 1, by omega, by go_num, hM3, fb3, E⟩, rfl⟩ | exact undef)
     case measure => (simp [intOf] <;> omega)
    ·clear hnn
     go_wp2_with fail
     ((first | (with_reducible refine wp_region_on (by kernel_rfl) (by kernel_rfl) ?_) | refine wp_region_more (by kernel_rfl) (by kernel_rfl) ?_); (repeat (first | go_big_quiet_skip | (go_big_quiet_want; go_big_quiet_op; first | go_big_quiet_on | (apply Exists.intro; refine ⟨fun _ => ?_, ?_⟩; (focus (fail)); go_big_quiet_on)))); refine wpQuiet_nil ?_; rintro _ ⟨mq, rfl⟩)
     have fb3 := keep_more mq fb2
     have hM3 := hM2 mq
     clear hM2 fb2 l1' l2'
     generalize more wr mq = w3 at *
     go_wp2
     go_roundw
     case rel => first | exact ⟨k + 1, by omega, by go_num, hM3, fb3, E⟩ | ((repeat' apply Exists.intro) <;> first | exact ⟨⟨k + 1, by omega, by go_num, hM3, fb3, E⟩, rfl⟩ | exact undef)
     case measure => (simp [intOf] <;> omega)
  ·have e := hI.out
   rw [idx_end (by omega)] at e
   subst e
   clear hI
   go_wp2
   go_ret
   exact ⟨rfl, by exact grew_auto⟩
theorem eqfunc_any (oa ob : Option Addr) (c d : Nat) (L : List Nd) (w : World) (hA : NdsAt w oa L) (hB : NdsAt w ob L) (hL : L.length ≤ 100000) :
  Calls Tryz.prog 38 #[.slice oa L.length c, .slice ob L.length d, .func (Fn.func 39) #[] #[]] w fun e w' => e = .returned (.bool true) ∧ Below w.heap.size w w' := by
 have HA : Hid (NdsAt w oa L) := hA
 have HB : Hid (NdsAt w ob L) := hB
 clear hA hB
 go_enter Tryz.func38, Tryz.ntmps38
 go_wp2_with fail
 go_loopw [17, 7, 8, 9] (fun i _ _ _ wr => ∃ k : Nat, k ≤ L.length ∧ i = .int .i64 k ∧ Below w.heap.size w wr) (fun i _ _ _ _ => L.length - (intOf i).toNat)
 case atStart => exact ⟨0, by omega, rfl, Grew.refl _⟩
 case round =>
  obtain ⟨k, hk, rfl, hM⟩ := hrel
  by_cases hlt : k < L.length
  ·obtain ⟨u, hu⟩ : ∃ u, L[k]? = some u := ⟨_, List.getElem?_eq_getElem hlt⟩
   rcases HA.out.later hM with h0 | ⟨g, o, rfl, hg, hl⟩
   ·subst h0; simp at hlt
   obtain ⟨l1, l2⟩ := hl k u hu
   have l1' : cellOf (objAt wr g) (o + k * 2) = some (.int .i64 u.f) := by rw [Nat.mul_comm]; exact l1
   have l2' : cellOf (objAt wr g) (o + k * 2 + 1) = some (.int .i64 u.s) := by rw [Nat.mul_comm]; exact l2
   rcases HB.out.later hM with h0 | ⟨g', o', rfl, hg', hl'⟩
   ·subst h0; simp at hlt
   obtain ⟨m1, m2⟩ := hl' k u hu
   have m1' : cellOf (objAt wr g') (o' + k * 2) = some (.int .i64 u.f) := by rw [Nat.mul_comm]; exact m1
   have m2' : cellOf (objAt wr g') (o' + k * 2 + 1) = some (.int .i64 u.s) := by rw [Nat.mul_comm]; exact m2
   have hi1 : (k : Int) < (L.length : Int) := by omega
   have hi0 : (0 : Int) ≤ (k : Int) := by omega
   have c1 := fun W : World => same1_any u.f u.s W
   clear hl hl' l1 l2 m1 m2
   go_wp2_with fail
   refine (c1 _).mono ?_
   rintro e w2 ⟨rfl, hb2⟩
   have hM2 : Below w.heap.size w w2 := Grew.trans (by exact grew_auto) hb2
   clear hb2 l1' l2' m1' m2'
   go_wp2
   go_roundw
   case rel => first | exact ⟨k + 1, by omega, by go_num, hM2⟩ | ((repeat' apply Exists.intro) <;> first | exact ⟨⟨k + 1, by omega, by go_num, hM2⟩, rfl⟩ | exact undef)
   case measure => (simp [intOf] <;> omega)
  ·obtain rfl : k = L.length := by omega
   go_wp2
   go_ret
   exact ⟨rfl, hM⟩
theorem equalfn_same (oa ob : Option Addr) (c d : Nat) (L : List Nd) (w : World) (hA : NdsAt w oa L) (hB : NdsAt w ob L) (hL : L.length ≤ 100000) :
  Calls Tryz.prog 11 #[.slice oa L.length c, .slice ob L.length d] w fun e w' => e = .returned (.bool true) ∧ Below w.heap.size w w' := by
 have c1 := eqfunc_any oa ob c d L w hA hB hL
 clear hA hB
 go_enter Tryz.func11, Tryz.ntmps11
 go_wp2_with fail
 refine c1.mono ?_
 rintro e w2 ⟨rfl, hb2⟩
 go_wp2
 go_ret
 exact ⟨rfl, hb2⟩
end Go.Proofs.YtfgbpfapphofdaaGreatDoor
namespace Go.Proofs.YtfgbpfapphofdaaGreatDoor
open Go.RowKit
set_option linter.unusedVariables false
set_option linter.unusedSimpArgs false
theorem left3 : leftN 3 = 2 := left_uniq (j := 1) (by decide) (by decide)
theorem left2 : leftN 2 = 1 := left_uniq (j := 0) (by decide) (by decide)
theorem all3 : allN 3 = [⟨0, 3⟩, ⟨0, 2⟩, ⟨0, 1⟩, ⟨1, 1⟩, ⟨2, 1⟩] := by
 have e : allN ((3 : Nat) : Int) = belowN 0 3 := all_some (by decide) (by decide)
 rw [show (3 : Int) = ((3 : Nat) : Int) from rfl, e, belowN_more (by decide), left3, belowN_more (f := 0) (s := 2) (by decide), left2, belowN_one (by decide), belowN_one (by decide), belowN_one (by decide)]
 rfl
theorem nds_lit {w : World} {g : Nat} {t : TypeId} {fr : Nat × Nat} (h : objAt w g = some (.cells #[.int .i64 0, .int .i64 3, .int .i64 0, .int .i64 2, .int .i64 0, .int .i64 1, .int .i64 1, .int .i64 1, .int .i64 2, .int .i64 1] t fr)) : NdsAt w (some ⟨g, 0, none⟩) (allN 3) := by
 rw [all3]
 refine .inr ⟨g, 0, rfl, lt_of_objAt h, fun i v hv => ?_⟩
 rw [h, cellOf_cells, cellOf_cells, Nat.zero_add]
 have hi : i < 5 := (List.getElem?_eq_some_iff.1 hv).1
 rcases (by omega : i = 0 ∨ i = 1 ∨ i = 2 ∨ i = 3 ∨ i = 4) with rfl | rfl | rfl | rfl | rfl <;> (simp at hv; subst hv; exact ⟨rfl, rfl⟩)
theorem awake11_any (pA : ∀ (n : Int) (W : World), Calls Tryz.prog 12 #[.int .i64 n] W (RetNds W (allN n))) (aw10 : ∀ W : World, Tabs W → Calls Tryz.prog 36 #[] W fun e w' => e = .returned (.bool true) ∧ Below W.heap.size W w') (w : World) (hT : Tabs w) :
  Calls Tryz.prog 8 #[] w fun e w' => e = .returned (.bool true) ∧ Below w.heap.size w w' := by
 have hTT : Hid (Tabs w) := hT
 clear hT
 have c1 := fun W : World => pA 3 W
 have hl : (allN 3).length = 5 := by rw [all3]; rfl
 have HL : Hid (∀ (W : World) (g : Nat) (t : TypeId) (fr : Nat × Nat), objAt W g = some (.cells #[.int .i64 0, .int .i64 3, .int .i64 0, .int .i64 2, .int .i64 0, .int .i64 1, .int .i64 1, .int .i64 1, .int .i64 2, .int .i64 1] t fr) → NdsAt W (some ⟨g, 0, none⟩) (allN 3)) := fun W g t fr h => nds_lit h
 generalize allN 3 = L at *
 have hG := Grew.refl w
 go_enter Tryz.func8, Tryz.ntmps8
 go_wp2_with fail
 (refine (aw10 _ (hTT.out.later hG)).mono ?_; rintro e w1 ⟨rfl, hb⟩; replace hG : Below w.heap.size w w1 := Grew.trans (by exact grew_auto) hb; clear hb)
 go_wp2_with fail
 refine (c1 _).mono ?_
 rintro e w2 ⟨oa, c, rfl, hN, hb⟩
 have hG2 : Below w.heap.size w w2 := Grew.trans hG hb
 clear hb
 have HN : Hid (NdsAt w2 oa L) := hN
 clear hN
 go_wp2_with fail
 have c2 := fun W d (h : NdsAt W oa L) (h2 : NdsAt W (some ⟨w2.heap.size, 0, none⟩) L) => equal_same oa (some ⟨w2.heap.size, 0, none⟩) c d L W h h2 (by omega)
 rw [hl] at c2
 refine (c2 _ _ (HN.out.later (Grew.alloc (Grew.refl _) _)) (HL.out _ _ _ _ (objAt_alloc_at _ _ _ rfl))).mono ?_
 rintro e w3 ⟨rfl, hb3⟩
 have hG3 : Below w.heap.size w w3 := Grew.trans (Grew.alloc hG2 _) hb3
 go_wp2
 go_ret
 exact ⟨rfl, hG3⟩
theorem Awake10_any (aw : ∀ W : World, Tabs W → Calls Tryz.prog 54 #[] W fun e w' => e = .returned (.bool true) ∧ Below W.heap.size W w') (w : World) (hT : Tabs w) :
  Calls Tryz.prog 36 #[] w fun e w' => e = .returned (.bool true) ∧ Below w.heap.size w w' := by
 have hG := Grew.refl w
 go_enter Tryz.func36, Tryz.ntmps36
 go_wp2_with fail
 (refine (aw _ hT).mono ?_; rintro e w1 ⟨rfl, hb⟩; replace hG : Below w.heap.size w w1 := Grew.trans (by exact grew_auto) hb; clear hb)
 go_wp2
 go_ret
 exact ⟨rfl, by exact grew_auto⟩
end Go.Proofs.YtfgbpfapphofdaaGreatDoor
namespace Go.Proofs.YtfgbpfapphofdaaGreatDoor
open Go.RowKit
set_option linter.unusedVariables false
set_option linter.unusedSimpArgs false
def LeftC : Prop := ∀ (n : Int) (W : World), n ≤ 1099511627776 → Calls Tryz.prog 9 #[.int .i64 n] W fun e w' => e = .returned (.int .i64 (leftN n.toNat : Nat)) ∧ Below W.heap.size W w'
def AllC : Prop := ∀ (n : Int) (W : World), Calls Tryz.prog 12 #[.int .i64 n] W (RetNds W (allN n))
def PathC : Prop := ∀ (n j : Int) (W : World), -2199023255552 ≤ j → j ≤ 2199023255552 → Calls Tryz.prog 14 #[.int .i64 n, .int .i64 j] W (RetNds W (pathI n j))
def CopathC : Prop := ∀ (n j : Int) (W : World), -2199023255552 ≤ j → j ≤ 2199023255552 → Calls Tryz.prog 16 #[.int .i64 n, .int .i64 j] W (RetNds W (copathI n j))
def DepthC : Prop := ∀ (n j : Int) (W : World), -2199023255552 ≤ j → j ≤ 2199023255552 → Calls Tryz.prog 18 #[.int .i64 n, .int .i64 j] W fun e w' => e = .returned (.int .i64 (if 1 ≤ n ∧ n ≤ 1024 then ((pathI n j).length : Int) - 1 else 0)) ∧ Below W.heap.size W w'
def IndexC : Prop := ∀ (n : Int) (f s : Nat) (W : World), f ≤ 2199023255552 → s ≤ 2199023255552 → Calls Tryz.prog 20 #[.int .i64 n, .agg #[.int .i64 (f : Int), .int .i64 (s : Int)]] W fun e w' => e = .returned (.int .i64 (idxN f s (allN n) 0)) ∧ Below W.heap.size W w'
def HasC : Prop := ∀ (f s : Nat) (j : Int) (W : World), f ≤ 2199023255552 → s ≤ 2199023255552 → -2199023255552 ≤ j → j ≤ 2199023255552 → Calls Tryz.prog 22 #[.agg #[.int .i64 (f : Int), .int .i64 (s : Int)], .int .i64 j] W fun e w' => e = .returned (.bool (decide ((f : Int) ≤ j ∧ j < (f : Int) + (s : Int)))) ∧ Below W.heap.size W w'
theorem copath_len (n j : Int) : (copathI n j).length ≤ 100000 := by
 unfold copathI
 split
 ·have := copath_depth n.toNat j.toNat (by omega); omega
 ·simp
theorem tells11_walk (n j X D I : Int) (f s : Nat) (A P C : List Nd) (H : Bool) (w : World) (hT : Tabs w) (hA : A.length ≤ 100000) (hP : P.length ≤ 100000) (hC : C.length ≤ 100000) (h1 : n ≤ 1099511627776) (h2 : f ≤ 1099511627776) (h3 : s ≤ 1099511627776) (h4 : -1099511627776 ≤ j) (h5 : j ≤ 1099511627776)
  (a1 : ∀ W : World, Calls Tryz.prog 9 #[.int .i64 n] W fun e w' => e = .returned (.int .i64 X) ∧ Below W.heap.size W w')
  (b1 : ∀ W : World, Calls Tryz.prog 10 #[.int .i64 n] W fun e w' => e = .returned (.int .i64 X) ∧ Below W.heap.size W w')
  (a2 : ∀ W : World, Calls Tryz.prog 12 #[.int .i64 n] W (RetNds W A))
  (b2 : ∀ W : World, Calls Tryz.prog 13 #[.int .i64 n] W (RetNds W A))
  (a3 : ∀ W : World, Calls Tryz.prog 14 #[.int .i64 n, .int .i64 j] W (RetNds W P))
  (b3 : ∀ W : World, Calls Tryz.prog 15 #[.int .i64 n, .int .i64 j] W (RetNds W P))
  (a4 : ∀ W : World, Calls Tryz.prog 16 #[.int .i64 n, .int .i64 j] W (RetNds W C))
  (b4 : ∀ W : World, Calls Tryz.prog 17 #[.int .i64 n, .int .i64 j] W (RetNds W C))
  (a5 : ∀ W : World, Calls Tryz.prog 18 #[.int .i64 n, .int .i64 j] W fun e w' => e = .returned (.int .i64 D) ∧ Below W.heap.size W w')
  (b5 : ∀ W : World, Calls Tryz.prog 19 #[.int .i64 n, .int .i64 j] W fun e w' => e = .returned (.int .i64 D) ∧ Below W.heap.size W w')
  (a6 : ∀ W : World, Calls Tryz.prog 20 #[.int .i64 n, .agg #[.int .i64 (f : Int), .int .i64 (s : Int)]] W fun e w' => e = .returned (.int .i64 I) ∧ Below W.heap.size W w')
  (b6 : ∀ W : World, Calls Tryz.prog 21 #[.int .i64 n, .agg #[.int .i64 (f : Int), .int .i64 (s : Int)]] W fun e w' => e = .returned (.int .i64 I) ∧ Below W.heap.size W w')
  (a7 : ∀ W : World, Calls Tryz.prog 22 #[.agg #[.int .i64 (f : Int), .int .i64 (s : Int)], .int .i64 j] W fun e w' => e = .returned (.bool H) ∧ Below W.heap.size W w')
  (b7 : ∀ W : World, Calls Tryz.prog 23 #[.agg #[.int .i64 (f : Int), .int .i64 (s : Int)], .int .i64 j] W fun e w' => e = .returned (.bool H) ∧ Below W.heap.size W w')
  (aw : ∀ W : World, Tabs W → Calls Tryz.prog 8 #[] W fun e w' => e = .returned (.bool true) ∧ Below W.heap.size W w') :
  Calls Tryz.prog 3 #[.int .i64 n, .int .i64 j, .agg #[.int .i64 (f : Int), .int .i64 (s : Int)]] w fun e w' => e = .returned (.bool true) ∧ Below w.heap.size w w' := by
 have hTT : Hid (Tabs w) := hT
 clear hT
 have hG := Grew.refl w
 have fv : True := trivial
 go_enter Tryz.func3, Tryz.ntmps3
 go_wp2_with fail
 replace fv : objAt (w.alloc (.cells #[.int .i64 f, .int .i64 s] 23)) (w.heap.size) = some (.cells #[.int .i64 f, .int .i64 s] 23) := by exact keep_auto
 replace hG : Below w.heap.size w (w.alloc (.cells #[.int .i64 f, .int .i64 s] 23)) := by exact grew_auto
 generalize w.alloc (.cells #[.int .i64 f, .int .i64 s] 23) = w1 at *
 have lfv := lt_of_objAt fv
 go_wp2_with fail
 (refine (aw _ (hTT.out.later hG)).mono ?_; rintro e w2 ⟨rfl, hb⟩; replace fv : objAt w2 (w.heap.size) = some (.cells #[.int .i64 f, .int .i64 s] 23) := keep_below hb (by exact keep_auto); have lfv := lt_of_objAt fv; replace hG : Below w.heap.size w w2 := Grew.trans (by exact grew_auto) hb; clear hb)
 go_wp2_with fail
 go_region_held3 (fun w' => objAt w' w.heap.size = some (.cells #[.int .i64 f, .int .i64 s] 23) ∧ Below w.heap.size w w') (first | assumption | exact ⟨fv, Grew.drewN hG 1⟩ | (go_split_ands; exact ⟨keep_below hbq (by assumption), Grew.trans (by assumption) hbq⟩) | (go_split_ands; exact ⟨by assumption, by assumption⟩)) (first | ((with_reducible refine (a1 _).mono ?_); rintro e wq ⟨rfl, hbq⟩) | ((with_reducible refine (b1 _).mono ?_); rintro e wq ⟨rfl, hbq⟩) | ((with_reducible refine (a5 _).mono ?_); rintro e wq ⟨rfl, hbq⟩) | ((with_reducible refine (b5 _).mono ?_); rintro e wq ⟨rfl, hbq⟩) | ((with_reducible refine (a6 _).mono ?_); rintro e wq ⟨rfl, hbq⟩) | ((with_reducible refine (b6 _).mono ?_); rintro e wq ⟨rfl, hbq⟩) | ((with_reducible refine (a7 _).mono ?_); rintro e wq ⟨rfl, hbq⟩) | ((with_reducible refine (b7 _).mono ?_); rintro e wq ⟨rfl, hbq⟩) | ((with_reducible refine (a2 _).mono ?_); rintro e wq ⟨oq, cq, rfl, hNq, hbq⟩) | ((with_reducible refine (b2 _).mono ?_); rintro e wq ⟨oq, cq, rfl, hNq, hbq⟩) | ((with_reducible refine (a3 _).mono ?_); rintro e wq ⟨oq, cq, rfl, hNq, hbq⟩) | ((with_reducible refine (b3 _).mono ?_); rintro e wq ⟨oq, cq, rfl, hNq, hbq⟩) | ((with_reducible refine (a4 _).mono ?_); rintro e wq ⟨oq, cq, rfl, hNq, hbq⟩) | ((with_reducible refine (b4 _).mono ?_); rintro e wq ⟨oq, cq, rfl, hNq, hbq⟩) | ((with_reducible refine (equalfn_same _ _ _ _ _ _ ?_ ?_ ?_).mono ?_); (focus (first | assumption | exact NdsAt.later (by assumption) (by assumption))); (focus assumption); (focus assumption); rintro e wq ⟨rfl, hbq⟩))
 go_wp2
 go_ret
 refine ⟨rfl, ?_⟩
 go_split_ands
 first | assumption | exact Grew.trans (by assumption) hbq
theorem tells11_any (pLeftC : LeftC) (pAllC : AllC) (pPathC : PathC) (pCopathC : CopathC) (pDepthC : DepthC) (pIndexC : IndexC) (pHasC : HasC) (aw : ∀ W : World, Tabs W → Calls Tryz.prog 8 #[] W fun e w' => e = .returned (.bool true) ∧ Below W.heap.size W w') (n j a b : Int) (w : World) (hT : Tabs w) :
  Calls Tryz.prog 3 #[.int .i64 n, .int .i64 j, .agg #[.int .i64 a, .int .i64 b]] w fun e w' => e = .returned (.bool true) ∧ Below w.heap.size w w' := by
 have hTT : Hid (Tabs w) := hT
 by_cases h0 : n ≤ 1099511627776
 case neg =>
  have g0 : 1099511627776 < n := by omega
  clear pLeftC pAllC pPathC pCopathC pDepthC pIndexC pHasC
  have hG := Grew.refl w
  have fv : True := trivial
  go_enter Tryz.func3, Tryz.ntmps3
  go_wp2_with fail
  replace fv : objAt (w.alloc (.cells #[.int .i64 a, .int .i64 b] 23)) (w.heap.size) = some (.cells #[.int .i64 a, .int .i64 b] 23) := by exact keep_auto
  replace hG : Below w.heap.size w (w.alloc (.cells #[.int .i64 a, .int .i64 b] 23)) := by exact grew_auto
  generalize w.alloc (.cells #[.int .i64 a, .int .i64 b] 23) = w1 at *
  have lfv := lt_of_objAt fv
  go_wp2_with fail
  (refine (aw _ (hTT.out.later hG)).mono ?_; rintro e w2 ⟨rfl, hb⟩; replace fv : objAt w2 (w.heap.size) = some (.cells #[.int .i64 a, .int .i64 b] 23) := keep_below hb (by exact keep_auto); have lfv := lt_of_objAt fv; replace hG : Below w.heap.size w w2 := Grew.trans (by exact grew_auto) hb; clear hb)
  go_wp2
  go_ret
  exact ⟨rfl, by exact grew_auto⟩
 by_cases h1 : 0 ≤ a
 case neg =>
  have g1 : a < 0 := by omega
  clear pLeftC pAllC pPathC pCopathC pDepthC pIndexC pHasC
  have hG := Grew.refl w
  have fv : True := trivial
  go_enter Tryz.func3, Tryz.ntmps3
  go_wp2_with fail
  replace fv : objAt (w.alloc (.cells #[.int .i64 a, .int .i64 b] 23)) (w.heap.size) = some (.cells #[.int .i64 a, .int .i64 b] 23) := by exact keep_auto
  replace hG : Below w.heap.size w (w.alloc (.cells #[.int .i64 a, .int .i64 b] 23)) := by exact grew_auto
  generalize w.alloc (.cells #[.int .i64 a, .int .i64 b] 23) = w1 at *
  have lfv := lt_of_objAt fv
  go_wp2_with fail
  (refine (aw _ (hTT.out.later hG)).mono ?_; rintro e w2 ⟨rfl, hb⟩; replace fv : objAt w2 (w.heap.size) = some (.cells #[.int .i64 a, .int .i64 b] 23) := keep_below hb (by exact keep_auto); have lfv := lt_of_objAt fv; replace hG : Below w.heap.size w w2 := Grew.trans (by exact grew_auto) hb; clear hb)
  go_wp2
  go_ret
  exact ⟨rfl, by exact grew_auto⟩
 by_cases h2 : a ≤ 1099511627776
 case neg =>
  have g2 : 1099511627776 < a := by omega
  clear pLeftC pAllC pPathC pCopathC pDepthC pIndexC pHasC
  have hG := Grew.refl w
  have fv : True := trivial
  go_enter Tryz.func3, Tryz.ntmps3
  go_wp2_with fail
  replace fv : objAt (w.alloc (.cells #[.int .i64 a, .int .i64 b] 23)) (w.heap.size) = some (.cells #[.int .i64 a, .int .i64 b] 23) := by exact keep_auto
  replace hG : Below w.heap.size w (w.alloc (.cells #[.int .i64 a, .int .i64 b] 23)) := by exact grew_auto
  generalize w.alloc (.cells #[.int .i64 a, .int .i64 b] 23) = w1 at *
  have lfv := lt_of_objAt fv
  go_wp2_with fail
  (refine (aw _ (hTT.out.later hG)).mono ?_; rintro e w2 ⟨rfl, hb⟩; replace fv : objAt w2 (w.heap.size) = some (.cells #[.int .i64 a, .int .i64 b] 23) := keep_below hb (by exact keep_auto); have lfv := lt_of_objAt fv; replace hG : Below w.heap.size w w2 := Grew.trans (by exact grew_auto) hb; clear hb)
  go_wp2
  go_ret
  exact ⟨rfl, by exact grew_auto⟩
 by_cases h3 : 0 ≤ b
 case neg =>
  have g3 : b < 0 := by omega
  clear pLeftC pAllC pPathC pCopathC pDepthC pIndexC pHasC
  have hG := Grew.refl w
  have fv : True := trivial
  go_enter Tryz.func3, Tryz.ntmps3
  go_wp2_with fail
  replace fv : objAt (w.alloc (.cells #[.int .i64 a, .int .i64 b] 23)) (w.heap.size) = some (.cells #[.int .i64 a, .int .i64 b] 23) := by exact keep_auto
  replace hG : Below w.heap.size w (w.alloc (.cells #[.int .i64 a, .int .i64 b] 23)) := by exact grew_auto
  generalize w.alloc (.cells #[.int .i64 a, .int .i64 b] 23) = w1 at *
  have lfv := lt_of_objAt fv
  go_wp2_with fail
  (refine (aw _ (hTT.out.later hG)).mono ?_; rintro e w2 ⟨rfl, hb⟩; replace fv : objAt w2 (w.heap.size) = some (.cells #[.int .i64 a, .int .i64 b] 23) := keep_below hb (by exact keep_auto); have lfv := lt_of_objAt fv; replace hG : Below w.heap.size w w2 := Grew.trans (by exact grew_auto) hb; clear hb)
  go_wp2
  go_ret
  exact ⟨rfl, by exact grew_auto⟩
 by_cases h4 : b ≤ 1099511627776
 case neg =>
  have g4 : 1099511627776 < b := by omega
  clear pLeftC pAllC pPathC pCopathC pDepthC pIndexC pHasC
  have hG := Grew.refl w
  have fv : True := trivial
  go_enter Tryz.func3, Tryz.ntmps3
  go_wp2_with fail
  replace fv : objAt (w.alloc (.cells #[.int .i64 a, .int .i64 b] 23)) (w.heap.size) = some (.cells #[.int .i64 a, .int .i64 b] 23) := by exact keep_auto
  replace hG : Below w.heap.size w (w.alloc (.cells #[.int .i64 a, .int .i64 b] 23)) := by exact grew_auto
  generalize w.alloc (.cells #[.int .i64 a, .int .i64 b] 23) = w1 at *
  have lfv := lt_of_objAt fv
  go_wp2_with fail
  (refine (aw _ (hTT.out.later hG)).mono ?_; rintro e w2 ⟨rfl, hb⟩; replace fv : objAt w2 (w.heap.size) = some (.cells #[.int .i64 a, .int .i64 b] 23) := keep_below hb (by exact keep_auto); have lfv := lt_of_objAt fv; replace hG : Below w.heap.size w w2 := Grew.trans (by exact grew_auto) hb; clear hb)
  go_wp2
  go_ret
  exact ⟨rfl, by exact grew_auto⟩
 by_cases h5 : -1099511627776 ≤ j
 case neg =>
  have g5 : j < -1099511627776 := by omega
  clear pLeftC pAllC pPathC pCopathC pDepthC pIndexC pHasC
  have hG := Grew.refl w
  have fv : True := trivial
  go_enter Tryz.func3, Tryz.ntmps3
  go_wp2_with fail
  replace fv : objAt (w.alloc (.cells #[.int .i64 a, .int .i64 b] 23)) (w.heap.size) = some (.cells #[.int .i64 a, .int .i64 b] 23) := by exact keep_auto
  replace hG : Below w.heap.size w (w.alloc (.cells #[.int .i64 a, .int .i64 b] 23)) := by exact grew_auto
  generalize w.alloc (.cells #[.int .i64 a, .int .i64 b] 23) = w1 at *
  have lfv := lt_of_objAt fv
  go_wp2_with fail
  (refine (aw _ (hTT.out.later hG)).mono ?_; rintro e w2 ⟨rfl, hb⟩; replace fv : objAt w2 (w.heap.size) = some (.cells #[.int .i64 a, .int .i64 b] 23) := keep_below hb (by exact keep_auto); have lfv := lt_of_objAt fv; replace hG : Below w.heap.size w w2 := Grew.trans (by exact grew_auto) hb; clear hb)
  go_wp2
  go_ret
  exact ⟨rfl, by exact grew_auto⟩
 by_cases h6 : j ≤ 1099511627776
 case neg =>
  have g6 : 1099511627776 < j := by omega
  clear pLeftC pAllC pPathC pCopathC pDepthC pIndexC pHasC
  have hG := Grew.refl w
  have fv : True := trivial
  go_enter Tryz.func3, Tryz.ntmps3
  go_wp2_with fail
  replace fv : objAt (w.alloc (.cells #[.int .i64 a, .int .i64 b] 23)) (w.heap.size) = some (.cells #[.int .i64 a, .int .i64 b] 23) := by exact keep_auto
  replace hG : Below w.heap.size w (w.alloc (.cells #[.int .i64 a, .int .i64 b] 23)) := by exact grew_auto
  generalize w.alloc (.cells #[.int .i64 a, .int .i64 b] 23) = w1 at *
  have lfv := lt_of_objAt fv
  go_wp2_with fail
  (refine (aw _ (hTT.out.later hG)).mono ?_; rintro e w2 ⟨rfl, hb⟩; replace fv : objAt w2 (w.heap.size) = some (.cells #[.int .i64 a, .int .i64 b] 23) := keep_below hb (by exact keep_auto); have lfv := lt_of_objAt fv; replace hG : Below w.heap.size w w2 := Grew.trans (by exact grew_auto) hb; clear hb)
  go_wp2
  go_ret
  exact ⟨rfl, by exact grew_auto⟩
 obtain ⟨f, rfl⟩ := Int.eq_ofNat_of_zero_le h1
 obtain ⟨s, rfl⟩ := Int.eq_ofNat_of_zero_le h3
 exact tells11_walk n j _ _ _ f s _ _ _ _ w hT (by have := all_len n; omega) (by have := path_le n j; omega) (copath_len n j) h0 (by omega) (by omega) h5 h6 (fun W => pLeftC n W h0) (fun W => rleft_any n W h0) (fun W => pAllC n W) (fun W => rall_any n W) (fun W => pPathC n j W (by omega) (by omega)) (fun W => rpath_any n j W h0 h5 h6) (fun W => pCopathC n j W (by omega) (by omega)) (fun W => rcopath_any n j W h0 h5 h6) (fun W => pDepthC n j W (by omega) (by omega)) (fun W => rdepth_any n j W h0 h5 h6) (fun W => pIndexC n f s W (by omega) (by omega)) (fun W => rindex_any n f s W) (fun W => pHasC f s j W (by omega) (by omega) (by omega) (by omega)) (fun W => rhas_any f s j W (by omega) (by omega)) aw
end Go.Proofs.YtfgbpfapphofdaaGreatDoor
