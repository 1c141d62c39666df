/- M11 -/
import Derived.Test.YtfgbpfapphofdaaGreatDoorR11
import Derived.Test.YtfgbpfapphofdaaGreatDoorL11
set_option maxRecDepth 100000
set_option maxHeartbeats 4000000
namespace Go.Proofs.YtfgbpfapphofdaaGreatDoor
open Go.RowKit
set_option linter.unusedVariables false
set_option linter.unusedSimpArgs false
theorem idx_at (v : Nd) : ∀ (L : List Nd) (i k : Nat), L.Nodup → L[k]? = some v → idxN v.f v.s L i = ((i + k : Nat) : Int)
 | [], i, k, _, h => by simp at h
 | u :: L, i, 0, _, h => by
  simp at h
  subst h
  rw [idxN, if_pos ⟨rfl, rfl⟩]
  simp
 | u :: L, i, k + 1, hn, h => by
  have hn' := List.nodup_cons.1 hn
  have h' : L[k]? = some v := by simpa using h
  have hm : v ∈ L := List.mem_of_getElem? h'
  have hne : ¬ (u.f = v.f ∧ u.s = v.s) := fun e => hn'.1 (by
   have : u = v := by cases u; cases v; simp_all
   rw [this]; exact hm)
  rw [idxN, if_neg hne, idx_at v L (i + 1) k hn'.2 h']
  congr 1
  omega
theorem path_nodup (n j : Nat) (h0 : 1 ≤ n) (h : j < n) : (pathN n j).Nodup := by
 rw [← path_filter n j h0 h]
 exact List.Nodup.sublist List.filter_sublist (List.pairwise_reverse.2 ((below_nodup 0 n h0).imp fun h => h.symm))
theorem copath_in (n j : Nat) (h0 : 1 ≤ n) (h : j < n) (i : Nat) (v : Nd) (hv : (copathN n j)[i]? = some v) : v.f + v.s ≤ n := by
 obtain ⟨up, b, u, e1, e2, e3, e4, e5, e6, e7, e8, e9, e10⟩ := path_step n j h0 h i (List.getElem?_eq_some_iff.1 hv).1
 have hm : up ∈ pathN n j := List.mem_of_getElem? e1
 rw [← path_filter n j h0 h] at hm
 have hb := below_in 0 n up (List.mem_reverse.1 (List.mem_filter.1 hm).1)
 rw [hv] at e3
 obtain rfl := Option.some.inj e3
 have hl := left_bd e4
 rcases e10 with ⟨_, e⟩ | ⟨_, e⟩
 ·rw [e]; simp only; omega
 ·rw [e]; simp only; omega
theorem hits_take {C : List Nd} {i : Nat} {v : Nd} (h : C[i]? = some v) (k : Nat) : hitsN (C.take (i + 1)) k = hitsN (C.take i) k + (if v.f ≤ k ∧ k < v.f + v.s then 1 else 0) := by
 unfold hitsN
 rw [take_next h, List.filter_append, List.length_append]
 congr 1
 obtain ⟨f, s⟩ := v
 simp only
 by_cases hv : f ≤ k ∧ k < f + s
 ·rw [if_pos hv, filt_pos hv]; rfl
 ·rw [if_neg hv, filt_neg hv]; rfl
theorem hits_le (l : List Nd) (k : Nat) : hitsN l k ≤ l.length := List.length_filter_le _ _
def seenF (C : List Nd) (j i : Nat) : Nat → Int := fun k => (hitsN (C.take i) k : Int) + (if k = j then 1 else 0)
def innF (S : Nat → Int) (f k : Nat) : Nat → Int := fun x => S x + (if f ≤ x ∧ x < f + k then 1 else 0)
theorem seen_zero (C : List Nd) (j : Nat) : upd nought j 1 = seenF C j 0 := by
 funext k
 unfold upd seenF nought hitsN
 simp
theorem inn_zero (S : Nat → Int) (f : Nat) : innF S f 0 = S := by
 funext x
 unfold innF
 rw [if_neg (by omega)]
 omega
theorem inn_next (S : Nat → Int) (f k : Nat) : upd (innF S f k) (f + k) (innF S f k (f + k) + 1) = innF S f (k + 1) := by
 funext x
 unfold upd innF
 by_cases h : x = f + k
 ·subst h
  rw [if_pos rfl, if_neg (by omega), if_pos (by omega)]
  omega
 ·rw [if_neg h]
  congr 1
  by_cases h2 : f ≤ x ∧ x < f + k
  ·rw [if_pos h2, if_pos (by omega)]
  ·rw [if_neg h2, if_neg (by omega)]
theorem inn_end {C : List Nd} {i : Nat} {v : Nd} (h : C[i]? = some v) (j : Nat) : innF (seenF C j i) v.f v.s = seenF C j (i + 1) := by
 funext x
 unfold innF seenF
 rw [hits_take h]
 by_cases h2 : v.f ≤ x ∧ x < v.f + v.s
 ·rw [if_pos h2, if_pos h2]; omega
 ·rw [if_neg h2, if_neg h2]; omega
theorem seen_bd (C : List Nd) (j i x : Nat) (h : C.length ≤ 10) (f k : Nat) : 0 ≤ innF (seenF C j i) f k x ∧ innF (seenF C j i) f k x ≤ 12 := by
 have h1 := hits_le (C.take i) x
 have h2 : (C.take i).length ≤ C.length := by rw [List.length_take]; omega
 unfold innF seenF
 split <;> split <;> omega
theorem seen_end (n j k : Nat) (h0 : 1 ≤ n) (h : j < n) (hk : k < n) : seenF (copathN n j) j (copathN n j).length k = 1 := by
 unfold seenF
 rw [List.take_length]
 have := copath_cover n j k h0 h hk
 by_cases hx : k = j
 ·rw [if_pos hx] at this ⊢; omega
 ·rw [if_neg hx] at this ⊢; omega
theorem only_one {p : Nd → Bool} : ∀ (l : List Nd), (l.filter p).length = 1 → ∀ (i : Nat) (u : Nd) (j : Nat) (v : Nd), l[i]? = some u → p u = true → l[j]? = some v → p v = true → i = j
 | [], h, _, _, _, _, _, _, _, _ => by simp at h
 | w :: l, h, i, u, j, v, hu, pu, hv, pv => by
  have none : ∀ (l : List Nd), (l.filter p).length = 0 → ∀ (i : Nat) (u : Nd), l[i]? = some u → p u = true → False := fun l h i u hu pu => by
   have : u ∈ l.filter p := List.mem_filter.2 ⟨List.mem_of_getElem? hu, pu⟩
   rw [List.length_eq_zero_iff.1 h] at this
   simp at this
  by_cases hp : p w = true
  ·rw [List.filter_cons_of_pos hp, List.length_cons] at h
   match i, j with
   | 0, 0 => rfl
   | 0, j + 1 => exact (none l (by omega) j v (by simpa using hv) pv).elim
   | i + 1, _ => exact (none l (by omega) i u (by simpa using hu) pu).elim
  ·rw [List.filter_cons_of_neg hp] at h
   match i, j with
   | 0, _ => simp at hu; subst hu; exact (hp pu).elim
   | _ + 1, 0 => simp at hv; subst hv; exact (hp pv).elim
   | i + 1, j + 1 => rw [only_one l h i u j v (by simpa using hu) pu (by simpa using hv) pv]
theorem one_hit (n x y : Nat) (h0 : 1 ≤ n) (hx : x < n) (hy : y < n) (hne : x ≠ y) (i : Nat) (u : Nd) (j : Nat) (v : Nd) (hu : (copathN n x)[i]? = some u) (pu : u.has y) (hv : (copathN n x)[j]? = some v) (pv : v.has y) : i = j := by
 have h := copath_cover n x y h0 hx hy
 rw [if_neg (fun e => hne e.symm)] at h
 exact only_one _ (by unfold hitsN at h; omega) i u j v hu (by simpa using pu) hv (by simpa using pv)
attribute [irreducible] seenF innF
end Go.Proofs.YtfgbpfapphofdaaGreatDoor
namespace Go.Proofs.YtfgbpfapphofdaaGreatDoor
open Go.RowKit
set_option linter.unusedVariables false
set_option linter.unusedSimpArgs false
theorem w64 (x : Nat) (h : x ≤ 1048576) : wrap64 (x : Int) = (x : Int) := by unfold wrap64; omega
theorem made_ints (n : Nat) : madeCells (Value.int .i64 0).cells n = ints .i64 n nought := by
 have hc : (Value.int .i64 0).cells = #[Value.int .i64 0] := rfl
 unfold madeCells ints
 rw [hc]
 apply Array.ext (by simp)
 intro i h1 h2
 simp [Nat.mod_one, nought]
@[go_sem high] theorem make_seen (w : World) : (Instr.makeSlice 41 (.int .i64 1024) (.int .i64 1024)).run Tryz.prog w = .ok (.slice (some ⟨w.heap.size, 0, none⟩) 1024 1024) (w.alloc (.cells (ints .i64 1024 nought) 3)) := by
 obtain ⟨i, hi, hz, hs, hb⟩ : ∃ i, Tryz.prog.info? 3 = some i ∧ i.zero = some (.int .i64 0) ∧ i.size = 1 ∧ i.bytes = 8 := ⟨(Tryz.prog.info? 3).get (by kernel_rfl), by kernel_rfl, by kernel_rfl, by kernel_rfl, by kernel_rfl⟩
 have h := run_make (P := Tryz.prog) w 41 3 i _ Tryz.underlying41 hi hz .i64 .i64 1024 1024 (by decide) (by decide) (by rw [hb]; decide) (by decide)
 rw [hs, made_ints] at h
 exact h
theorem NdsAt.cells {w : World} {oa : Option Addr} {L : List Nd} {k : Nat} {u : Nd} (h : NdsAt w oa L) (hu : L[k]? = some u) : ∃ g o, oa = some ⟨g, o, none⟩ ∧ g < w.heap.size ∧ cellOf (objAt w g) (o + k * 2) = some (.int .i64 u.f) ∧ cellOf (objAt w g) (o + k * 2 + 1) = some (.int .i64 u.s) := by
 rcases h with h0 | ⟨g, o, rfl, hg, hl⟩
 ·subst h0; simp at hu
 ·obtain ⟨l1, l2⟩ := hl k u hu
  rw [Nat.mul_comm] at l1 l2
  exact ⟨g, o, rfl, hg, l1, l2⟩
theorem covers11_walk (a b r n j m N : Nat) (A P C : List Nd) (w : World) (hT : Tabs w)
  (hAl : Hid (A.length = N))
  (hN : Hid ((N : Int) = 2 * (n : Int) - 1))
  (hPl : Hid (P.length = m + 1))
  (hCl : Hid (C.length = m))
  (hm : Hid (m ≤ 10))
  (hn0 : 1 ≤ n)
  (hn1 : n ≤ 1024)
  (hj : j < n)
  (wa : wrap64 (a : Int) = (a : Int))
  (wb : wrap64 (b : Int) = (b : Int))
  (hnA : (a : Int).tmod 1024 = (r : Int))
  (hnr : (r : Int) + 1 = (n : Int))
  (wn : wrap64 (n : Int) = (n : Int))
  (hjB : (b : Int).tmod (n : Int) = (j : Int))
  (hne : ¬ ((n : Int) = 0))
  (hP0 : Hid (P[0]? = some ⟨j, 1⟩))
  (hPm : Hid (P[m]? = some ⟨0, n⟩))
  (hst : Hid (∀ i, i < m → ∃ up b v : Nd, P[i + 1]? = some up ∧ P[i]? = some b ∧ C[i]? = some v ∧ b.s + v.s = up.s ∧ up.f = min b.f v.f ∧ v.f + v.s ≤ n ∧ up.s ≤ 1024))
  (hse : Hid (∀ k, k < n → seenF C j m k = 1))
  (cA : ∀ W : World, Calls Tryz.prog 12 #[.int .i64 (n : Int)] W (RetNds W A))
  (cP : ∀ W : World, Calls Tryz.prog 14 #[.int .i64 (n : Int), .int .i64 (j : Int)] W (RetNds W P))
  (cC : ∀ W : World, Calls Tryz.prog 16 #[.int .i64 (n : Int), .int .i64 (j : Int)] W (RetNds W C))
  (cD : ∀ W : World, Calls Tryz.prog 18 #[.int .i64 (n : Int), .int .i64 (j : Int)] W fun e w' => e = .returned (.int .i64 (m : Int)) ∧ Below W.heap.size W w')
  (cI : Hid (∀ (k : Nat) (u : Nd), A[k]? = some u → ∀ W : World, Calls Tryz.prog 20 #[.int .i64 (n : Int), .agg #[.int .i64 ((u.f : Nat) : Int), .int .i64 ((u.s : Nat) : Int)]] W fun e w' => e = .returned (.int .i64 (k : Int)) ∧ Below W.heap.size W w'))
  (cU : Hid (∀ (k : Nat) (u : Nd), k < m → P[k + 1]? = some u → ∀ W : World, Calls Tryz.prog 22 #[.agg #[.int .i64 ((u.f : Nat) : Int), .int .i64 ((u.s : Nat) : Int)], .int .i64 (j : Int)] W fun e w' => e = .returned (.bool true) ∧ Below W.heap.size W w'))
  (cV : Hid (∀ (k : Nat) (u : Nd), C[k]? = some u → ∀ W : World, Calls Tryz.prog 22 #[.agg #[.int .i64 ((u.f : Nat) : Int), .int .i64 ((u.s : Nat) : Int)], .int .i64 (j : Int)] W fun e w' => e = .returned (.bool false) ∧ Below W.heap.size W w'))
  (aw : ∀ W : World, Tabs W → Calls Tryz.prog 8 #[] W fun e w' => e = .returned (.bool true) ∧ Below W.heap.size W w') :
  Calls Tryz.prog 4 #[.int .u16 (a : Int), .int .u16 (b : Int)] w fun e w' => e = .returned (.bool true) ∧ Below w.heap.size w w' := by
 have hTT : Hid (Tabs w) := hT
 clear hT
 have hG := Grew.refl w
 go_enter Tryz.func4, Tryz.ntmps4
 go_wp2_with fail
 (refine (aw _ (hTT.out.later hG)).mono ?_; rintro e w1 ⟨rfl, hb⟩; replace hG : Below w.heap.size w w1 := Grew.trans (by exact grew_auto) hb; clear hb)
 go_wp2_with fail
 refine (cA _).mono ?_
 rintro e w2 ⟨oA, kA, rfl, hA, hb2⟩
 go_wp2_with fail
 refine (cP _).mono ?_
 rintro e w3 ⟨oP, kP, rfl, hP, hb3⟩
 go_wp2_with fail
 refine (cC _).mono ?_
 rintro e w4 ⟨oC, kC, rfl, hC, hb4⟩
 have hG4 : Below w.heap.size w w4 := Grew.trans (Grew.trans (Grew.trans hG hb2) hb3) hb4
 have HA : Hid (NdsAt w4 oA A) := hA.later (Grew.trans hb3 hb4)
 have HP : Hid (NdsAt w4 oP P) := hP.later hb4
 have HC : Hid (NdsAt w4 oC C) := hC
 rw [hAl.out, hPl.out, hCl.out]
 clear hA hP hC hb2 hb3 hb4 hG cA cP cC aw
 have hx1 : (1 : Int) ≤ (n : Int) := by omega
 have hx2 : (m : Int) ≤ 10 := by have := hm.out; omega
 have hNN := hN.out
 go_wp2_with fail
 refine (cD _).mono ?_
 rintro e w5 ⟨rfl, hb5⟩
 have hG5 : Below w.heap.size w w5 := Grew.trans hG4 hb5
 replace HA : Hid (NdsAt w5 oA A) := HA.out.later hb5
 replace HP : Hid (NdsAt w5 oP P) := HP.out.later hb5
 replace HC : Hid (NdsAt w5 oC C) := HC.out.later hb5
 clear hG4 hb5 cD
 go_wp2_with fail
 go_loopw [65, 10, 11] (fun i _ _ wr => ∃ k : Nat, k ≤ N ∧ i = .int .i64 k ∧ Below w5.heap.size w5 wr) (fun i _ _ _ => N - (intOf i).toNat)
 case atStart => exact ⟨0, by omega, rfl, Grew.refl _⟩
 case round =>
  obtain ⟨k, hk, rfl, hM⟩ := hrel
  by_cases hlt : k < N
  ·obtain ⟨u, hu⟩ : ∃ u, A[k]? = some u := ⟨_, List.getElem?_eq_getElem (by rw [hAl.out]; exact hlt)⟩
   obtain ⟨g, o, rfl, hg, l1, l2⟩ := NdsAt.cells (HA.out.later hM) hu
   have c1 := cI.out k u hu
   have hi1 : (k : Int) < (N : Int) := by omega
   have hi0 : (0 : Int) ≤ (k : Int) := by omega
   go_wp2_with fail
   refine (c1 _).mono ?_
   rintro e w6 ⟨rfl, hb6⟩
   have hM2 : Below w5.heap.size w5 w6 := Grew.trans (by exact grew_auto) hb6
   clear hb6 l1 l2
   go_wp2
   go_roundw
   case rel => first | exact ⟨k + 1, by omega, by go_num, hM2⟩ | ((repeat' apply Exists.intro) <;> first | exact ⟨⟨k + 1, by omega, by go_num, hM2⟩, rfl⟩ | exact undef)
   case measure => (simp [intOf] <;> omega)
  ·obtain rfl : k = N := by omega
   have hkk : ¬ ((k : Int) < 2 * (n : Int) - 1) := by omega
   clear cI HA hN hNN hAl
   replace HC : Hid (NdsAt wr oC C) := HC.out.later hM
   replace HP : Hid (NdsAt wr oP P) := HP.out.later hM
   obtain ⟨gP, p0, rfl, hgP, a1, a2⟩ := NdsAt.cells HP.out hP0.out
   obtain ⟨gP', p0', e, hgP', b1, b2⟩ := NdsAt.cells HP.out hPm.out
   cases e
   have a1' : cellOf (objAt wr gP) p0 = some (.int .i64 (j : Int)) := a1
   have a2' : cellOf (objAt wr gP) (p0 + 1) = some (.int .i64 1) := a2
   have b1' : cellOf (objAt wr gP) (p0 + m * 2) = some (.int .i64 0) := b1
   have b2' : cellOf (objAt wr gP) (p0 + m * 2 + 1) = some (.int .i64 (n : Int)) := b2
   have hGr : Below w.heap.size w wr := Grew.trans hG5 hM
   have hj0 : (0 : Int) ≤ (j : Int) := by omega
   have hj1 : (j : Int) < 1024 := by omega
   have hj2 : j < 1024 := by omega
   have hjn : ((j : Int)).toNat = j := by omega
   have hno : nought j = 0 := rfl
   clear a1 a2 b1 b2 hM hG5 hP0 hPm hgP'
   generalize wr = w7 at *
   go_wp2_with fail
   go_loopw [102, 13, 14, 15, 16, 109] (fun i _ _ _ _ _ wr => ∃ i1 : Nat, i1 ≤ m ∧ i = .int .i64 i1 ∧ Below w7.heap.size w7 wr ∧ objAt wr w7.heap.size = some (.cells (ints .i64 1024 (seenF C j i1)) 3)) (fun i _ _ _ _ _ _ => m - (intOf i).toNat)
   case atStart => exact ⟨0, by omega, rfl, Grew.alloc (Grew.refl _) _, by rw [← seen_zero C j]; exact objAt_alloc_at _ _ _ rfl⟩
   case round =>
    clear hkk hlt hk
    obtain ⟨i1, hi1, rfl, hM, fs⟩ := hrel
    have lfs := lt_of_objAt fs
    by_cases hlt : i1 < m
    ·obtain ⟨up, b, v, eU, eB, eV, e1, e2, e3, e4⟩ := hst.out i1 hlt
     obtain ⟨gC, c0, rfl, hgC, l1, l2⟩ := NdsAt.cells (HC.out.later hM) eV
     have hi0 : (i1 : Int) < (m : Int) := by omega
     have hi2 : (0 : Int) ≤ (i1 : Int) := by omega
     go_wp2_with fail
     have nvs : ¬ (wr.heap.size = w7.heap.size) := by omega
     have nsv : ¬ (w7.heap.size = wr.heap.size) := by omega
     have fv8 : objAt (wr.alloc (.cells #[.int .i64 (v.f : Int), .int .i64 (v.s : Int)] 23)) wr.heap.size = some (.cells #[.int .i64 (v.f : Int), .int .i64 (v.s : Int)] 23) := objAt_alloc_at _ _ _ rfl
     have fs8 : objAt (wr.alloc (.cells #[.int .i64 (v.f : Int), .int .i64 (v.s : Int)] 23)) w7.heap.size = some (.cells (ints .i64 1024 (seenF C j i1)) 3) := keep_alloc _ fs
     have hM8 : Below w7.heap.size w7 (wr.alloc (.cells #[.int .i64 (v.f : Int), .int .i64 (v.s : Int)] 23)) := Grew.alloc hM _
     clear fs lfs l1 l2 hM hgC
     generalize wr.alloc (.cells #[.int .i64 (v.f : Int), .int .i64 (v.s : Int)] 23) = w8 at *
     generalize wr.heap.size = gv at *
     go_loopw [109, 15] (fun i _ wr2 => ∃ x : Nat, x ≤ v.s ∧ i = .int .i64 x ∧ Below w7.heap.size w7 wr2 ∧ objAt wr2 w7.heap.size = some (.cells (ints .i64 1024 (innF (seenF C j i1) v.f x)) 3) ∧ objAt wr2 gv = some (.cells #[.int .i64 (v.f : Int), .int .i64 (v.s : Int)] 23)) (fun i _ _ => v.s - (intOf i).toNat)
     case atStart => exact ⟨0, by omega, rfl, hM8, by rw [inn_zero]; exact fs8, fv8⟩
     case round =>
      clear fs8 fv8 hM8
      obtain ⟨x, hxs, rfl, hM, fs, fv⟩ := hrel
      have lfs := lt_of_objAt fs
      have lfv := lt_of_objAt fv
      by_cases hlx : x < v.s
      ·obtain ⟨X, hX⟩ : ∃ X, innF (seenF C j i1) v.f x (v.f + x) = X := ⟨_, rfl⟩
       have hbd := seen_bd C j i1 (v.f + x) (by rw [hCl.out]; exact hm.out) v.f x
       have hXN : Hid (upd (innF (seenF C j i1) v.f x) (v.f + x) (X + 1) = innF (seenF C j i1) v.f (x + 1)) := by
        show _ = _
        rw [← hX]
        exact inn_next _ _ _
       rw [hX] at hbd
       obtain ⟨hX0, hX1⟩ := hbd
       have hxx : (x : Int) < (v.s : Int) := by omega
       have hx0 : (0 : Int) ≤ (v.f : Int) + (x : Int) := by omega
       have hx2 : (v.f : Int) + (x : Int) < 1024 := by omega
       have hxn : ((v.f : Int) + (x : Int)).toNat = v.f + x := by omega
       have hxl : v.f + x < 1024 := by omega
       go_wp2
       rw [hXN.out]
       go_roundw
       case rel => first | exact ⟨x + 1, by omega, by go_num, Grew.setRow hM _ _ (by omega), keep_row _ fs, keep_setRow _ _ fv nvs⟩ | ((repeat' apply Exists.intro) <;> first | exact ⟨⟨x + 1, by omega, by go_num, Grew.setRow hM _ _ (by omega), keep_row _ fs, keep_setRow _ _ fv nvs⟩, rfl⟩ | exact undef)
       case measure => (simp [intOf] <;> omega)
      ·obtain rfl : x = v.s := by omega
       have hxx : ¬ ((v.s : Int) < (v.s : Int)) := by omega
       rw [inn_end eV] at fs
       have HPr : Hid (NdsAt wr (some ⟨gP, p0, none⟩) P) := HP.out.later hM
       obtain ⟨g1, o1, ee, hg1, u1, u2⟩ := NdsAt.cells HPr.out eU
       cases ee
       obtain ⟨g1, o1, ee, hg2, b1, b2⟩ := NdsAt.cells HPr.out eB
       cases ee
       have hnx : ((i1 : Int) + 1).toNat = i1 + 1 := by omega
       have hi3 : (i1 : Int) + 1 < (m : Int) + 1 := by omega
       have hi4 : (0 : Int) ≤ (i1 : Int) + 1 := by omega
       have hi5 : (i1 : Int) < (m : Int) + 1 := by omega
       have he1 : (b.s : Int) + (v.s : Int) = (up.s : Int) := by omega
       have hw2 : wrap64 (up.s : Int) = (up.s : Int) := w64 _ (Nat.le_trans e4 (by decide))
       have hw1 : wrap64 ((b.s : Int) + (v.s : Int)) = (up.s : Int) := (congrArg wrap64 he1).trans hw2
       have he2 : min (b.f : Int) (v.f : Int) = (up.f : Int) := by omega
       clear e1 e2 e3 e4
       have cu := cU.out i1 up hlt eU
       have cv := cV.out i1 v eV
       go_wp2_with fail
       have hA9 : Below wr.heap.size wr (wr.alloc (.cells #[.int .i64 (up.f : Int), .int .i64 (up.s : Int)] 23)) := Grew.alloc (Grew.refl _) _
       have b1' := cell_kept hA9 hg2 b1
       have b2' := cell_kept hA9 hg2 b2
       have lg9 := Nat.lt_of_lt_of_le hg2 hA9.size
       have fu : objAt (wr.alloc (.cells #[.int .i64 (up.f : Int), .int .i64 (up.s : Int)] 23)) wr.heap.size = some (.cells #[.int .i64 (up.f : Int), .int .i64 (up.s : Int)] 23) := objAt_alloc_at _ _ _ rfl
       have fv9 : objAt (wr.alloc (.cells #[.int .i64 (up.f : Int), .int .i64 (up.s : Int)] 23)) gv = some (.cells #[.int .i64 (v.f : Int), .int .i64 (v.s : Int)] 23) := keep_alloc _ fv
       have fs9 : objAt (wr.alloc (.cells #[.int .i64 (up.f : Int), .int .i64 (up.s : Int)] 23)) w7.heap.size = some (.cells (ints .i64 1024 (seenF C j (i1 + 1))) 3) := keep_alloc _ fs
       have hM9 : Below w7.heap.size w7 (wr.alloc (.cells #[.int .i64 (up.f : Int), .int .i64 (up.s : Int)] 23)) := Grew.alloc hM _
       clear hM fs fv lfs lfv u1 u2 b1 b2 hA9 hg1 hg2 HPr
       generalize wr.alloc (.cells #[.int .i64 (up.f : Int), .int .i64 (up.s : Int)] 23) = w9 at *
       generalize wr.heap.size = gu at *
       have lfu := lt_of_objAt fu
       have lfv := lt_of_objAt fv9
       go_wp2_with fail
       ((first | (with_reducible refine wp_region_on (by kernel_rfl) (by kernel_rfl) ?_) | refine wp_region_more (by kernel_rfl) (by kernel_rfl) ?_); (repeat (first | go_big_quiet_skip | (go_big_quiet_want; go_big_quiet_op; first | go_big_quiet_on | (apply Exists.intro; refine ⟨fun _ => ?_, ?_⟩; (focus (first | (with_reducible exact Calls.of_more (cu _)) | (with_reducible exact Calls.of_more (cv _)))); go_big_quiet_on)))); refine wpQuiet_nil ?_; rintro _ ⟨mq, rfl⟩)
       have hMx : Below w7.heap.size w7 (more w9 mq) := Grew.more hM9 mq
       have fsx := keep_more mq fs9
       generalize more w9 mq = w10 at *
       go_wp2
       go_roundw
       case rel => first | exact ⟨i1 + 1, by omega, by go_num, hMx, fsx⟩ | ((repeat' apply Exists.intro) <;> first | exact ⟨⟨i1 + 1, by omega, by go_num, hMx, fsx⟩, rfl⟩ | exact undef)
       case measure => (simp [intOf] <;> omega)
    ·obtain rfl : i1 = m := by omega
     have hii : ¬ ((i1 : Int) < (i1 : Int)) := by omega
     generalize seenF C j i1 = S at *
     go_wp2_with fail
     go_loopw [164, 17] (fun i _ wr2 => ∃ x : Nat, x ≤ n ∧ i = .int .i64 x ∧ Below w7.heap.size w7 wr2 ∧ objAt wr2 w7.heap.size = some (.cells (ints .i64 1024 S) 3)) (fun i _ _ => n - (intOf i).toNat)
     case atStart => exact ⟨0, by omega, rfl, hM, fs⟩
     case round =>
      clear fs hM lfs
      obtain ⟨x, hxn, rfl, hM, fs⟩ := hrel
      have lfs := lt_of_objAt fs
      by_cases hlx : x < n
      ·have hS1 := hse.out x hlx
       have hx1 : (x : Int) < (n : Int) := by omega
       have hx3 : (x : Int) < 1024 := by omega
       have hx4 : x < 1024 := by omega
       go_wp2
       go_roundw
       case rel => first | exact ⟨x + 1, by omega, by go_num, hM, fs⟩ | ((repeat' apply Exists.intro) <;> first | exact ⟨⟨x + 1, by omega, by go_num, hM, fs⟩, rfl⟩ | exact undef)
       case measure => (simp [intOf] <;> omega)
      ·obtain rfl : x = n := by omega
       go_wp2
       go_ret
       exact ⟨rfl, Grew.trans hGr hM⟩
theorem copath_some {n j : Nat} (h1 : 1 ≤ n) (h2 : n ≤ 1024) (hj : j < n) : copathI n j = copathN n j := by
 unfold copathI
 rw [if_pos (by omega)]
 rfl
theorem path_bd (n j : Nat) (h0 : 1 ≤ n) (h : j < n) (h2 : n ≤ 1024) (i : Nat) (u : Nd) (hu : (pathN n j)[i]? = some u) : u.f ≤ 1024 ∧ u.s ≤ 1024 := by
 have hm : u ∈ pathN n j := List.mem_of_getElem? hu
 rw [← path_filter n j h0 h] at hm
 have := below_in 0 n u (List.mem_reverse.1 (List.mem_filter.1 hm).1)
 omega
theorem tmod_nat (a n : Nat) : (a : Int).tmod (n : Int) = ((a % n : Nat) : Int) := by
 rw [Int.tmod_eq_emod_of_nonneg (by omega)]
 exact (Int.natCast_emod a n).symm
theorem covers11_any (pAllC : AllC) (pPathC : PathC) (pCopathC : CopathC) (pDepthC : DepthC) (pIndexC : IndexC) (pHasC : HasC) (aw : ∀ W : World, Tabs W → Calls Tryz.prog 8 #[] W fun e w' => e = .returned (.bool true) ∧ Below W.heap.size W w') (a b : Int) (w : World) (ha : 0 ≤ a) (ha2 : a ≤ 65535) (hb : 0 ≤ b) (hb2 : b ≤ 65535) (hT : Tabs w) :
  Calls Tryz.prog 4 #[.int .u16 a, .int .u16 b] w fun e w' => e = .returned (.bool true) ∧ Below w.heap.size w w' := by
 obtain ⟨A, rfl⟩ := Int.eq_ofNat_of_zero_le ha
 obtain ⟨B, rfl⟩ := Int.eq_ofNat_of_zero_le hb
 obtain ⟨n, hn⟩ : ∃ n, A % 1024 + 1 = n := ⟨_, rfl⟩
 obtain ⟨j, hj⟩ : ∃ j, B % n = j := ⟨_, rfl⟩
 have h1 : 1 ≤ n := by omega
 have h2 : n ≤ 1024 := by omega
 have hjn : j < n := by rw [← hj]; exact Nat.mod_lt _ (by omega)
 have eA := all_some h1 h2
 have eP := path_some h1 h2 hjn
 have eC := copath_some h1 h2 hjn
 have hpl := path_length n j
 refine covers11_walk A B (A % 1024) n j (copathN n j).length (2 * n - 1) (belowN 0 n) (pathN n j) (copathN n j) w hT (below_length 0 n h1) (show (((2 * n - 1 : Nat)) : Int) = 2 * (n : Int) - 1 by omega) hpl rfl (copath_depth n j h2) h1 h2 hjn
  (w64 _ (by omega)) (w64 _ (by omega)) (tmod_nat A 1024) (by omega) (w64 _ (by omega)) (by rw [tmod_nat, hj]) (by omega) (path_first n j h1 hjn) (path_last n j) (fun i hi => ?_) (fun k hk => seen_end n j k h1 hjn hk)
  (fun W => by have := pAllC (n : Int) W; rw [eA] at this; exact this) (fun W => by have := pPathC (n : Int) (j : Int) W (by omega) (by omega); rw [eP] at this; exact this) (fun W => by have := pCopathC (n : Int) (j : Int) W (by omega) (by omega); rw [eC] at this; exact this)
  (fun W => by
   have := pDepthC (n : Int) (j : Int) W (by omega) (by omega)
   rw [if_pos (by omega), eP, hpl, show (((copathN n j).length + 1 : Nat) : Int) - 1 = ((copathN n j).length : Int) by omega] at this
   exact this)
  (fun k u hu W => by
   have hbi := below_in 0 n u (List.mem_of_getElem? hu)
   have := pIndexC (n : Int) u.f u.s W (by omega) (by omega)
   rw [eA, idx_at u _ 0 k (below_nodup 0 n h1) hu, Nat.zero_add] at this
   exact this)
  (fun k u hk hu W => by
   obtain ⟨up, b, v, e1, e2, e3, e4, e5, e6, e7, e8, e9, e10⟩ := path_step n j h1 hjn k hk
   rw [hu] at e1
   obtain rfl := Option.some.inj e1
   have hbd := path_bd n j h1 hjn h2 _ _ hu
   have := pHasC u.f u.s (j : Int) W (by omega) (by omega) (by omega) (by omega)
   rw [decide_eq_true (show (u.f : Int) ≤ (j : Int) ∧ (j : Int) < (u.f : Int) + (u.s : Int) by unfold Nd.has at e6; omega)] at this
   exact this)
  (fun k u hu W => by
   obtain ⟨up, b, v, e1, e2, e3, e4, e5, e6, e7, e8, e9, e10⟩ := path_step n j h1 hjn k (List.getElem?_eq_some_iff.1 hu).1
   rw [hu] at e3
   obtain rfl := Option.some.inj e3
   have hbd := copath_in n j h1 hjn k u hu
   have := pHasC u.f u.s (j : Int) W (by omega) (by omega) (by omega) (by omega)
   rw [decide_eq_false (show ¬ ((u.f : Int) ≤ (j : Int) ∧ (j : Int) < (u.f : Int) + (u.s : Int)) by unfold Nd.has at e7; omega)] at this
   exact this) aw
 obtain ⟨up, b, v, e1, e2, e3, e4, e5, e6, e7, e8, e9, e10⟩ := path_step n j h1 hjn i hi
 exact ⟨up, b, v, e1, e2, e3, e5, e8, copath_in n j h1 hjn i v e3, (path_bd n j h1 hjn h2 _ _ e1).2⟩
end Go.Proofs.YtfgbpfapphofdaaGreatDoor
namespace Go.Proofs.YtfgbpfapphofdaaGreatDoor
open Go.RowKit
set_option linter.unusedVariables false
set_option linter.unusedSimpArgs false
def RetNdsC (w : World) (L : List Nd) (e : Ending) (w' : World) : Prop := ∃ oa c, e = .returned (.slice oa L.length c) ∧ L.length ≤ c ∧ NdsAt w' oa L ∧ Below w.heap.size w w'
def PathCC : Prop := ∀ (n j : Int) (W : World), -2199023255552 ≤ j → j ≤ 2199023255552 → Calls Tryz.prog 14 #[.int .i64 n, .int .i64 j] W (RetNdsC W (pathI n j))
theorem NdsAt.drop {w : World} {g o : Nat} {L : List Nd} (h : NdsAt w (some ⟨g, o, none⟩) L) (i : Nat) : NdsAt w (some ⟨g, o + i * 2, none⟩) (L.drop i) := by
 rcases h with h | ⟨g', o', e, hg, hl⟩
 ·exact .inl (by rw [h]; exact List.drop_nil)
 ·cases e
  refine .inr ⟨g, _, rfl, hg, fun k v hv => ?_⟩
  rw [List.getElem?_drop] at hv
  obtain ⟨l1, l2⟩ := hl _ _ hv
  rw [show o + i * 2 + 2 * k = o + 2 * (i + k) by omega]
  exact ⟨l1, l2⟩
theorem meets11_same (a b c r n x : Nat) (w : World) (hT : Tabs w)
  (wa : wrap64 (a : Int) = (a : Int))
  (wb : wrap64 (b : Int) = (b : Int))
  (wc : wrap64 (c : Int) = (c : Int))
  (hnA : (a : Int).tmod 1024 = (r : Int))
  (hnr : (r : Int) + 1 = (n : Int))
  (wn : wrap64 (n : Int) = (n : Int))
  (hxB : (b : Int).tmod (n : Int) = (x : Int))
  (hyC : (c : Int).tmod (n : Int) = (x : Int))
  (hne : ¬ ((n : Int) = 0))
  (aw : ∀ W : World, Tabs W → Calls Tryz.prog 8 #[] W fun e w' => e = .returned (.bool true) ∧ Below W.heap.size W w') :
  Calls Tryz.prog 5 #[.int .u16 (a : Int), .int .u16 (b : Int), .int .u16 (c : Int)] w fun e w' => e = .returned (.bool true) ∧ Below w.heap.size w w' := by
 have hTT : Hid (Tabs w) := hT
 clear hT
 have hG := Grew.refl w
 go_enter Tryz.func5, Tryz.ntmps5
 go_wp2_with fail
 (refine (aw _ (hTT.out.later hG)).mono ?_; rintro e w1 ⟨rfl, hb⟩; replace hG : Below w.heap.size w w1 := Grew.trans (by exact grew_auto) hb; clear hb)
 clear aw
 go_wp2_with fail
 ((first | (with_reducible refine wp_region_on (by kernel_rfl) (by kernel_rfl) ?_) | refine wp_region_more (by kernel_rfl) (by kernel_rfl) ?_); (repeat (first | go_big_quiet_skip | (go_big_quiet_want; go_big_quiet_op; first | go_big_quiet_on | (apply Exists.intro; refine ⟨fun _ => ?_, ?_⟩; (focus (fail)); go_big_quiet_on)))); refine wpQuiet_nil ?_; rintro _ ⟨mq, rfl⟩)
 have hG2 : Below w.heap.size w (more w1 mq) := Grew.more hG mq
 generalize more w1 mq = w2 at *
 go_wp2
 go_ret
 exact ⟨rfl, hG2⟩
theorem meets11_walk (a b c r n x y m mt i0 k0 : Nat) (v : Nd) (P Q C : List Nd) (w : World) (hT : Tabs w)
  (wa : wrap64 (a : Int) = (a : Int))
  (wb : wrap64 (b : Int) = (b : Int))
  (wc : wrap64 (c : Int) = (c : Int))
  (hnA : (a : Int).tmod 1024 = (r : Int))
  (hnr : (r : Int) + 1 = (n : Int))
  (wn : wrap64 (n : Int) = (n : Int))
  (hxB : (b : Int).tmod (n : Int) = (x : Int))
  (hyC : (c : Int).tmod (n : Int) = (y : Int))
  (hne : ¬ ((n : Int) = 0))
  (hxy : ¬ ((x : Int) = (y : Int)))
  (hPl : Hid (P.length = m + 1))
  (hQl : Hid (Q.length = mt + 1))
  (hCl : Hid (C.length = m))
  (hi0 : Hid (i0 < m))
  (hm : Hid (m ≤ 10))
  (hk0 : Hid (k0 < mt))
  (hmq : Hid (mt ≤ 10))
  (hC0 : Hid (C[i0]? = some v))
  (hQi : Hid (idxN v.f v.s Q 0 = (k0 : Int)))
  (hD : Hid (P.drop (i0 + 1) = Q.drop (k0 + 1)))
  (cP : ∀ W : World, Calls Tryz.prog 14 #[.int .i64 (n : Int), .int .i64 (x : Int)] W (RetNdsC W P))
  (cQ : ∀ W : World, Calls Tryz.prog 14 #[.int .i64 (n : Int), .int .i64 (y : Int)] W (RetNdsC W Q))
  (cC : ∀ W : World, Calls Tryz.prog 16 #[.int .i64 (n : Int), .int .i64 (x : Int)] W (RetNds W C))
  (cH : Hid (∀ (k : Nat) (u : Nd), C[k]? = some u → ∀ W : World, Calls Tryz.prog 22 #[.agg #[.int .i64 ((u.f : Nat) : Int), .int .i64 ((u.s : Nat) : Int)], .int .i64 (y : Int)] W fun e w' => e = .returned (.bool (decide (k = i0))) ∧ Below W.heap.size W w'))
  (aw : ∀ W : World, Tabs W → Calls Tryz.prog 8 #[] W fun e w' => e = .returned (.bool true) ∧ Below W.heap.size W w') :
  Calls Tryz.prog 5 #[.int .u16 (a : Int), .int .u16 (b : Int), .int .u16 (c : Int)] w fun e w' => e = .returned (.bool true) ∧ Below w.heap.size w w' := by
 have hTT : Hid (Tabs w) := hT
 clear hT
 have hG := Grew.refl w
 go_enter Tryz.func5, Tryz.ntmps5
 go_wp2_with fail
 (refine (aw _ (hTT.out.later hG)).mono ?_; rintro e w1 ⟨rfl, hb⟩; replace hG : Below w.heap.size w w1 := Grew.trans (by exact grew_auto) hb; clear hb)
 clear aw
 go_wp2_with fail
 ((first | (with_reducible refine wp_region_on (by kernel_rfl) (by kernel_rfl) ?_) | refine wp_region_more (by kernel_rfl) (by kernel_rfl) ?_); (repeat (first | go_big_quiet_skip | (go_big_quiet_want; go_big_quiet_op; first | go_big_quiet_on | (apply Exists.intro; refine ⟨fun _ => ?_, ?_⟩; (focus (fail)); go_big_quiet_on)))); refine wpQuiet_nil ?_; rintro _ ⟨mq, rfl⟩)
 have hG2 : Below w.heap.size w (more w1 mq) := Grew.more hG mq
 generalize more w1 mq = w2 at *
 go_wp2_with fail
 refine (cP _).mono ?_
 rintro e w3 ⟨oP, kP, rfl, hcP, hP, hb3⟩
 go_wp2_with fail
 refine (cQ _).mono ?_
 rintro e w4 ⟨oQ, kQ, rfl, hcQ, hQ, hb4⟩
 go_wp2_with fail
 refine (cC _).mono ?_
 rintro e w5 ⟨oC, kC, rfl, hC, hb5⟩
 have hG5 : Below w.heap.size w w5 := Grew.trans (Grew.trans (Grew.trans hG2 hb3) hb4) hb5
 have HP : Hid (NdsAt w5 oP P) := hP.later (Grew.trans hb4 hb5)
 have HQ : Hid (NdsAt w5 oQ Q) := hQ.later hb5
 have HC : Hid (NdsAt w5 oC C) := hC
 have HcP : Hid (m + 1 ≤ kP) := by show _ ≤ _; rw [← hPl.out]; exact hcP
 have HcQ : Hid (mt + 1 ≤ kQ) := by show _ ≤ _; rw [← hQl.out]; exact hcQ
 rw [hPl.out, hQl.out, hCl.out]
 have hx2 : (m : Int) ≤ 10 := by have := hm.out; omega
 have hx3 : (mt : Int) ≤ 10 := by have := hmq.out; omega
 clear hP hQ hC hb3 hb4 hb5 hG2 hG cP cQ cC hcP hcQ
 go_wp2_with fail
 go_loopw [45, 13, 14, 15] (fun i p _ _ wr => ∃ k : Nat, k ≤ m ∧ i = .int .i64 k ∧ p = .int .i64 (if i0 < k then (i0 : Int) else -1) ∧ Below w5.heap.size w5 wr) (fun i _ _ _ _ => m - (intOf i).toNat)
 case atStart => exact ⟨0, by omega, rfl, by rw [if_neg (by omega)], Grew.refl _⟩
 case round =>
  obtain ⟨k, hk, rfl, rfl, hM⟩ := hrel
  by_cases hlt : k < m
  ·obtain ⟨u, hu⟩ : ∃ u, C[k]? = some u := ⟨_, List.getElem?_eq_getElem (by rw [hCl.out]; exact hlt)⟩
   obtain ⟨g, o, rfl, hg, l1, l2⟩ := NdsAt.cells (HC.out.later hM) hu
   have hi1 : (k : Int) < (m : Int) := by omega
   have hi2 : (0 : Int) ≤ (k : Int) := by omega
   have c1 := cH.out k u hu
   by_cases hki : k = i0
   ·subst hki
    rw [decide_eq_true rfl] at c1
    rw [if_neg (Nat.lt_irrefl _)]
    go_wp2_with fail
    refine (c1 _).mono ?_
    rintro e w6 ⟨rfl, hb6⟩
    have hM2 : Below w5.heap.size w5 w6 := Grew.trans (by exact grew_auto) hb6
    clear hb6 l1 l2
    have hif : (if k < k + 1 then (k : Int) else -1) = (k : Int) := by rw [if_pos (by omega)]
    go_wp2
    go_roundw
    case rel => exact ⟨k + 1, by omega, by go_num, by rw [hif], hM2⟩
    case measure => (simp [intOf] <;> omega)
   ·rw [decide_eq_false hki] at c1
    obtain ⟨pv, hpv⟩ : ∃ pv : Int, (if i0 < k then (i0 : Int) else -1) = pv := ⟨_, rfl⟩
    have hpv2 : Hid ((if i0 < k + 1 then (i0 : Int) else -1) = pv) := by
     show _ = _
     rw [← hpv]
     by_cases h : i0 < k
     ·rw [if_pos h, if_pos (by omega)]
     ·rw [if_neg h, if_neg (by omega)]
    rw [hpv]
    clear hpv hki
    go_wp2_with fail
    refine (c1 _).mono ?_
    rintro e w6 ⟨rfl, hb6⟩
    have hM2 : Below w5.heap.size w5 w6 := Grew.trans (by exact grew_auto) hb6
    clear hb6 l1 l2
    go_wp2
    go_roundw
    case rel => first | exact ⟨k + 1, by omega, by go_num, by rw [hpv2.out], hM2⟩ | ((repeat' apply Exists.intro) <;> first | exact ⟨⟨k + 1, by omega, by go_num, by rw [hpv2.out], hM2⟩, rfl⟩ | exact undef)
    case measure => (simp [intOf] <;> omega)
  ·obtain rfl : k = m := by omega
   rw [if_pos hi0.out]
   have hi1 : (i0 : Int) < (k : Int) := by have := hi0.out; omega
   have hi2 : (0 : Int) ≤ (i0 : Int) := by omega
   have hGr : Below w.heap.size w wr := Grew.trans hG5 hM
   replace HC : Hid (NdsAt wr oC C) := HC.out.later hM
   replace HP : Hid (NdsAt wr oP P) := HP.out.later hM
   replace HQ : Hid (NdsAt wr oQ Q) := HQ.out.later hM
   obtain ⟨g, o, rfl, hg, l1, l2⟩ := NdsAt.cells HC.out hC0.out
   have c1 := slindex_any oQ kQ v.f v.s Q wr HQ.out (by rw [hQl.out]; have := hmq.out; omega)
   rw [hQi.out, hQl.out] at c1
   clear hM hG5 cH
   generalize wr = w7 at *
   go_wp2_with fail
   refine c1.mono ?_
   rintro e w8 ⟨rfl, hb8⟩
   have hG8 : Below w.heap.size w w8 := Grew.trans hGr hb8
   replace HP : Hid (NdsAt w8 oP P) := HP.out.later hb8
   replace HQ : Hid (NdsAt w8 oQ Q) := HQ.out.later hb8
   clear hb8 hGr l1 l2 HC c1
   have hPex : ∃ u, P[0]? = some u := ⟨_, List.getElem?_eq_getElem (by rw [hPl.out]; omega)⟩
   obtain ⟨u1, hu1⟩ := hPex
   obtain ⟨gP, p0, rfl, hgP, -, -⟩ := NdsAt.cells HP.out hu1
   have hQex : ∃ u, Q[0]? = some u := ⟨_, List.getElem?_eq_getElem (by rw [hQl.out]; omega)⟩
   obtain ⟨u2, hu2⟩ := hQex
   obtain ⟨gQ, q0, rfl, hgQ, -, -⟩ := NdsAt.cells HQ.out hu2
   clear hu1 hu2
   have hQd := HQ.out.drop (k0 + 1)
   rw [← hD.out] at hQd
   have hPd := HP.out.drop (i0 + 1)
   have hL1 : (P.drop (i0 + 1)).length = k - i0 := by rw [List.length_drop, hPl.out]; omega
   have hL2 : (P.drop (i0 + 1)).length = mt - k0 := by rw [hD.out, List.length_drop, hQl.out]; omega
   have c2 : ∀ (l1 l2 d1 d2 : Nat) (q : More), l1 = k - i0 → l2 = mt - k0 → Calls Tryz.prog 25 #[.slice (some ⟨gP, p0 + (i0 + 1) * 2, none⟩) l1 d1, .slice (some ⟨gQ, q0 + (k0 + 1) * 2, none⟩) l2 d2] (more w8 q) fun e w' => e = .returned (.bool true) ∧ Below (more w8 q).heap.size (more w8 q) w' := fun l1 l2 d1 d2 q e1 e2 => by
    have := equal_same _ _ d1 d2 _ (more w8 q) (hPd.later (below_more _ _)) (hQd.later (below_more _ _)) (by have := hm.out; omega)
    rw [e1, e2, ← hL1]
    rw [show mt - k0 = (P.drop (i0 + 1)).length by omega]
    exact this
   have n1 : ((i0 : Int) + 1).toNat = i0 + 1 := by omega
   have n2 : ((k0 : Int) + 1).toNat = k0 + 1 := by omega
   have b1 : (i0 : Int) + 1 ≤ (k : Int) + 1 := by omega
   have b2 : (k0 : Int) + 1 ≤ (mt : Int) + 1 := by have := hk0.out; omega
   have z1 : (0 : Int) ≤ (i0 : Int) + 1 := by omega
   have z2 : (0 : Int) ≤ (k0 : Int) + 1 := by omega
   have t1 : ¬ (kP = i0 + 1) := by have := HcP.out; omega
   have t2 : ¬ (kQ = k0 + 1) := by have := HcQ.out; have := hk0.out; omega
   clear hQd hPd hL1 hL2 HP HQ
   go_wp2_with fail
   ((first | (with_reducible refine wp_region_on (by kernel_rfl) (by kernel_rfl) ?_) | refine wp_region_more (by kernel_rfl) (by kernel_rfl) ?_); (repeat (first | go_big_quiet_skip | (go_big_quiet_want; go_big_quiet_op; first | go_big_quiet_on | (apply Exists.intro; refine ⟨fun _ => ?_, ?_⟩; (focus (first | (with_reducible exact Calls.of_more (c2 _ _ _ _ _ (by omega) (by omega))))); go_big_quiet_on)))); refine wpQuiet_nil ?_; rintro _ ⟨mq, rfl⟩)
   have hG9 : Below w.heap.size w (more w8 mq) := Grew.more hG8 mq
   generalize more w8 mq = w9 at *
   go_wp2
   go_ret
   exact ⟨rfl, hG9⟩
theorem meets11_any (pPathCC : PathCC) (pCopathC : CopathC) (pHasC : HasC) (aw : ∀ W : World, Tabs W → Calls Tryz.prog 8 #[] W fun e w' => e = .returned (.bool true) ∧ Below W.heap.size W w') (a b c : Int) (w : World) (ha : 0 ≤ a) (ha2 : a ≤ 65535) (hb : 0 ≤ b) (hb2 : b ≤ 65535) (hc : 0 ≤ c) (hc2 : c ≤ 65535) (hT : Tabs w) :
  Calls Tryz.prog 5 #[.int .u16 a, .int .u16 b, .int .u16 c] w fun e w' => e = .returned (.bool true) ∧ Below w.heap.size w w' := by
 obtain ⟨A, rfl⟩ := Int.eq_ofNat_of_zero_le ha
 obtain ⟨B, rfl⟩ := Int.eq_ofNat_of_zero_le hb
 obtain ⟨C, rfl⟩ := Int.eq_ofNat_of_zero_le hc
 obtain ⟨n, hn⟩ : ∃ n, A % 1024 + 1 = n := ⟨_, rfl⟩
 obtain ⟨x, hx⟩ : ∃ x, B % n = x := ⟨_, rfl⟩
 obtain ⟨y, hy⟩ : ∃ y, C % n = y := ⟨_, rfl⟩
 have h1 : 1 ≤ n := by omega
 have h2 : n ≤ 1024 := by omega
 have hxn : x < n := by rw [← hx]; exact Nat.mod_lt _ (by omega)
 have hyn : y < n := by rw [← hy]; exact Nat.mod_lt _ (by omega)
 have k5 : ((A % 1024 : Nat) : Int) + 1 = (n : Int) := by omega
 have k9 : ¬ ((n : Int) = 0) := by omega
 have b1 : A ≤ 1048576 := by omega
 have b2 : B ≤ 1048576 := by omega
 have b3 : C ≤ 1048576 := by omega
 have b4 : n ≤ 1048576 := by omega
 by_cases hxy : x = y
 ·subst hxy
  exact meets11_same A B C (A % 1024) n x w hT (w64 A b1) (w64 B b2) (w64 C b3) (tmod_nat A 1024) k5 (w64 n b4) (by rw [tmod_nat, hx]) (by rw [tmod_nat, hy]) k9 aw
 obtain ⟨i0, k0, v, e1, e2, e3, e4⟩ := paths_meet n x y h1 hxn hyn hxy
 have hxyI : ¬ ((x : Int) = (y : Int)) := by omega
 have lP := path_length n x
 have lQ := path_length n y
 have hi0 : i0 < (copathN n x).length := (List.getElem?_eq_some_iff.1 e1).1
 have hk0 : k0 < (copathN n y).length := by
  have := congrArg List.length e4
  rw [List.length_drop, List.length_drop] at this
  omega
 refine meets11_walk A B C (A % 1024) n x y (copathN n x).length (copathN n y).length i0 k0 v (pathN n x) (pathN n y) (copathN n x) w hT (w64 A b1) (w64 B b2) (w64 C b3) (tmod_nat A 1024) k5 (w64 n b4) (by rw [tmod_nat, hx]) (by rw [tmod_nat, hy]) k9 hxyI lP lQ rfl hi0 (copath_depth n x h2) hk0 (copath_depth n y h2) e1
  (show idxN v.f v.s (pathN n y) 0 = (k0 : Int) by rw [idx_at v _ 0 k0 (path_nodup n y h1 hyn) e3, Nat.zero_add]) e4
  (fun W => by have := pPathCC (n : Int) (x : Int) W (by omega) (by omega); rw [path_some h1 h2 hxn] at this; exact this) (fun W => by have := pPathCC (n : Int) (y : Int) W (by omega) (by omega); rw [path_some h1 h2 hyn] at this; exact this)
  (fun W => by have := pCopathC (n : Int) (x : Int) W (by omega) (by omega); rw [copath_some h1 h2 hxn] at this; exact this)
  (fun k u hu W => ?_) aw
 have hbd := copath_in n x h1 hxn k u hu
 have := pHasC u.f u.s (y : Int) W (by omega) (by omega) (by omega) (by omega)
 by_cases hk : k = i0
 ·subst hk
  rw [hu] at e1
  obtain rfl := Option.some.inj e1
  rw [decide_eq_true (show (u.f : Int) ≤ (y : Int) ∧ (y : Int) < (u.f : Int) + (u.s : Int) by unfold Nd.has at e2; omega)] at this
  rw [decide_eq_true rfl]
  exact this
 ·rw [decide_eq_false (show ¬ ((u.f : Int) ≤ (y : Int) ∧ (y : Int) < (u.f : Int) + (u.s : Int)) from fun hh => hk (one_hit n x y h1 hxn hyn hxy k u i0 v hu (by unfold Nd.has; omega) e1 e2))] at this
  rw [decide_eq_false hk]
  exact this
end Go.Proofs.YtfgbpfapphofdaaGreatDoor
