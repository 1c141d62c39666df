/- Trees of secrets: places, what was seen. -/
import Derived.Test.YtonmancgalencaaGreatDoorR11
import Derived.Test.YtonmancgalencaaGreatDoorL11
namespace Go.Proofs.YtonmancgalencaaGreatDoor
open Go.RowKit
set_option linter.unusedVariables false
set_option linter.unusedSimpArgs false
theorem idx_at (v : Nd) : ∀ (L : List Nd) (i k : Nat), L.Nodup → L[k]? = some v → idxN v.f v.s L i = ((i + k : Nat) : Int)
 | [], i, k, _, h => by simp at h
 | u :: L, i, 0, _, h => by
  simp at h
  subst h
  rw [idxN, if_pos ⟨rfl, rfl⟩]
  simp
 | u :: L, i, k + 1, hn, h => by
  have hn' := List.nodup_cons.1 hn
  have h' : L[k]? = some v := by simpa using h
  have hm : v ∈ L := List.mem_of_getElem? h'
  have hne : ¬ (u.f = v.f ∧ u.s = v.s) := fun e => hn'.1 (by
   have : u = v := by cases u; cases v; simp_all
   rw [this]; exact hm)
  rw [idxN, if_neg hne, idx_at v L (i + 1) k hn'.2 h']
  congr 1
  omega
theorem path_nodup (n j : Nat) (h0 : 1 ≤ n) (h : j < n) : (pathN n j).Nodup := by
 rw [← path_filter n j h0 h]
 exact List.Nodup.sublist List.filter_sublist (List.pairwise_reverse.2 ((below_nodup 0 n h0).imp fun h => h.symm))
theorem copath_in (n j : Nat) (h0 : 1 ≤ n) (h : j < n) (i : Nat) (v : Nd) (hv : (copathN n j)[i]? = some v) : v.f + v.s ≤ n := by
 obtain ⟨up, b, u, e1, e2, e3, e4, e5, e6, e7, e8, e9, e10⟩ := path_step n j h0 h i (List.getElem?_eq_some_iff.1 hv).1
 have hm : up ∈ pathN n j := List.mem_of_getElem? e1
 rw [← path_filter n j h0 h] at hm
 have hb := below_in 0 n up (List.mem_reverse.1 (List.mem_filter.1 hm).1)
 rw [hv] at e3
 obtain rfl := Option.some.inj e3
 have hl := left_bd e4
 rcases e10 with ⟨_, e⟩ | ⟨_, e⟩
 ·rw [e]; simp only; omega
 ·rw [e]; simp only; omega
theorem hits_take {C : List Nd} {i : Nat} {v : Nd} (h : C[i]? = some v) (k : Nat) : hitsN (C.take (i + 1)) k = hitsN (C.take i) k + (if v.f ≤ k ∧ k < v.f + v.s then 1 else 0) := by
 unfold hitsN
 rw [take_next h, List.filter_append, List.length_append]
 congr 1
 obtain ⟨f, s⟩ := v
 simp only
 by_cases hv : f ≤ k ∧ k < f + s
 ·rw [if_pos hv, filt_pos hv]; rfl
 ·rw [if_neg hv, filt_neg hv]; rfl
theorem hits_le (l : List Nd) (k : Nat) : hitsN l k ≤ l.length := List.length_filter_le _ _
def seenF (C : List Nd) (j i : Nat) : Nat → Int := fun k => (hitsN (C.take i) k : Int) + (if k = j then 1 else 0)
def innF (S : Nat → Int) (f k : Nat) : Nat → Int := fun x => S x + (if f ≤ x ∧ x < f + k then 1 else 0)
theorem seen_zero (C : List Nd) (j : Nat) : upd nought j 1 = seenF C j 0 := by
 funext k
 unfold upd seenF nought hitsN
 simp
theorem inn_zero (S : Nat → Int) (f : Nat) : innF S f 0 = S := by
 funext x
 unfold innF
 rw [if_neg (by omega)]
 omega
theorem inn_next (S : Nat → Int) (f k : Nat) : upd (innF S f k) (f + k) (innF S f k (f + k) + 1) = innF S f (k + 1) := by
 funext x
 unfold upd innF
 by_cases h : x = f + k
 ·subst h
  rw [if_pos rfl, if_neg (by omega), if_pos (by omega)]
  omega
 ·rw [if_neg h]
  congr 1
  by_cases h2 : f ≤ x ∧ x < f + k
  ·rw [if_pos h2, if_pos (by omega)]
  ·rw [if_neg h2, if_neg (by omega)]
theorem inn_end {C : List Nd} {i : Nat} {v : Nd} (h : C[i]? = some v) (j : Nat) : innF (seenF C j i) v.f v.s = seenF C j (i + 1) := by
 funext x
 unfold innF seenF
 rw [hits_take h]
 by_cases h2 : v.f ≤ x ∧ x < v.f + v.s
 ·rw [if_pos h2, if_pos h2]; omega
 ·rw [if_neg h2, if_neg h2]; omega
theorem seen_bd (C : List Nd) (j i x : Nat) (h : C.length ≤ 10) (f k : Nat) : 0 ≤ innF (seenF C j i) f k x ∧ innF (seenF C j i) f k x ≤ 12 := by
 have h1 := hits_le (C.take i) x
 have h2 : (C.take i).length ≤ C.length := by rw [List.length_take]; omega
 unfold innF seenF
 split <;> split <;> omega
theorem seen_end (n j k : Nat) (h0 : 1 ≤ n) (h : j < n) (hk : k < n) : seenF (copathN n j) j (copathN n j).length k = 1 := by
 unfold seenF
 rw [List.take_length]
 have := copath_cover n j k h0 h hk
 by_cases hx : k = j
 ·rw [if_pos hx] at this ⊢; omega
 ·rw [if_neg hx] at this ⊢; omega
theorem only_one {p : Nd → Bool} : ∀ (l : List Nd), (l.filter p).length = 1 → ∀ (i : Nat) (u : Nd) (j : Nat) (v : Nd), l[i]? = some u → p u = true → l[j]? = some v → p v = true → i = j
 | [], h, _, _, _, _, _, _, _, _ => by simp at h
 | w :: l, h, i, u, j, v, hu, pu, hv, pv => by
  have none : ∀ (l : List Nd), (l.filter p).length = 0 → ∀ (i : Nat) (u : Nd), l[i]? = some u → p u = true → False := fun l h i u hu pu => by
   have : u ∈ l.filter p := List.mem_filter.2 ⟨List.mem_of_getElem? hu, pu⟩
   rw [List.length_eq_zero_iff.1 h] at this
   simp at this
  by_cases hp : p w = true
  ·rw [List.filter_cons_of_pos hp, List.length_cons] at h
   match i, j with
   | 0, 0 => rfl
   | 0, j + 1 => exact (none l (by omega) j v (by simpa using hv) pv).elim
   | i + 1, _ => exact (none l (by omega) i u (by simpa using hu) pu).elim
  ·rw [List.filter_cons_of_neg hp] at h
   match i, j with
   | 0, _ => simp at hu; subst hu; exact (hp pu).elim
   | _ + 1, 0 => simp at hv; subst hv; exact (hp pv).elim
   | i + 1, j + 1 => rw [only_one l h i u j v (by simpa using hu) pu (by simpa using hv) pv]
theorem one_hit (n x y : Nat) (h0 : 1 ≤ n) (hx : x < n) (hy : y < n) (hne : x ≠ y) (i : Nat) (u : Nd) (j : Nat) (v : Nd) (hu : (copathN n x)[i]? = some u) (pu : u.has y) (hv : (copathN n x)[j]? = some v) (pv : v.has y) : i = j := by
 have h := copath_cover n x y h0 hx hy
 rw [if_neg (fun e => hne e.symm)] at h
 exact only_one _ (by unfold hitsN at h; omega) i u j v hu (by simpa using pu) hv (by simpa using pv)
attribute [irreducible] seenF innF
end Go.Proofs.YtonmancgalencaaGreatDoor
namespace Go.Proofs.YtonmancgalencaaGreatDoor
open Go.RowKit
set_option linter.unusedVariables false
set_option linter.unusedSimpArgs false
theorem w64 (x : Nat) (h : x ≤ 1048576) : wrap64 (x : Int) = (x : Int) := by unfold wrap64; omega
theorem made_ints (n : Nat) : madeCells (Value.int .i64 0).cells n = ints .i64 n nought := by
 have hc : (Value.int .i64 0).cells = #[Value.int .i64 0] := rfl
 unfold madeCells ints
 rw [hc]
 apply Array.ext (by simp)
 intro i h1 h2
 simp [Nat.mod_one, nought]
@[go_sem high] theorem make_seen (w : World) : (Instr.makeSlice 88 (.int .i64 1024) (.int .i64 1024)).run Tryz.prog w = .ok (.slice (some ⟨w.heap.size, 0, none⟩) 1024 1024) (w.alloc (.cells (ints .i64 1024 nought) 3)) := by
 obtain ⟨i, hi, hz, hs, hb⟩ : ∃ i, Tryz.prog.info? 3 = some i ∧ i.zero = some (.int .i64 0) ∧ i.size = 1 ∧ i.bytes = 8 := ⟨(Tryz.prog.info? 3).get (by kernel_rfl), by kernel_rfl, by kernel_rfl, by kernel_rfl, by kernel_rfl⟩
 have h := run_make (P := Tryz.prog) w 88 3 i _ Tryz.underlying88 hi hz .i64 .i64 1024 1024 (by decide) (by decide) (by rw [hb]; decide) (by decide)
 rw [hs, made_ints] at h
 exact h
theorem NdsAt.cells {w : World} {oa : Option Addr} {L : List Nd} {k : Nat} {u : Nd} (h : NdsAt w oa L) (hu : L[k]? = some u) : ∃ g o, oa = some ⟨g, o, none⟩ ∧ g < w.heap.size ∧ cellOf (objAt w g) (o + k * 2) = some (.int .i64 u.f) ∧ cellOf (objAt w g) (o + k * 2 + 1) = some (.int .i64 u.s) := by
 rcases h with h0 | ⟨g, o, rfl, hg, hl⟩
 ·subst h0; simp at hu
 ·obtain ⟨l1, l2⟩ := hl k u hu
  rw [Nat.mul_comm] at l1 l2
  exact ⟨g, o, rfl, hg, l1, l2⟩
theorem copath_some {n j : Nat} (h1 : 1 ≤ n) (h2 : n ≤ 1024) (hj : j < n) : copathI n j = copathN n j := by
 unfold copathI
 rw [if_pos (by omega)]
 rfl
theorem path_bd (n j : Nat) (h0 : 1 ≤ n) (h : j < n) (h2 : n ≤ 1024) (i : Nat) (u : Nd) (hu : (pathN n j)[i]? = some u) : u.f ≤ 1024 ∧ u.s ≤ 1024 := by
 have hm : u ∈ pathN n j := List.mem_of_getElem? hu
 rw [← path_filter n j h0 h] at hm
 have := below_in 0 n u (List.mem_reverse.1 (List.mem_filter.1 hm).1)
 omega
theorem tmod_nat (a n : Nat) : (a : Int).tmod (n : Int) = ((a % n : Nat) : Int) := by
 rw [Int.tmod_eq_emod_of_nonneg (by omega)]
 exact (Int.natCast_emod a n).symm
end Go.Proofs.YtonmancgalencaaGreatDoor
namespace Go.Proofs.YtonmancgalencaaGreatDoor
open Go.RowKit
set_option linter.unusedVariables false
set_option linter.unusedSimpArgs false
def RetNdsC (w : World) (L : List Nd) (e : Ending) (w' : World) : Prop := ∃ oa c, e = .returned (.slice oa L.length c) ∧ L.length ≤ c ∧ NdsAt w' oa L ∧ Below w.heap.size w w'
def PathCC : Prop := ∀ (n j : Int) (W : World), -2199023255552 ≤ j → j ≤ 2199023255552 → Calls Tryz.prog 65 #[.int .i64 n, .int .i64 j] W (RetNdsC W (pathI n j))
theorem NdsAt.drop {w : World} {g o : Nat} {L : List Nd} (h : NdsAt w (some ⟨g, o, none⟩) L) (i : Nat) : NdsAt w (some ⟨g, o + i * 2, none⟩) (L.drop i) := by
 rcases h with h | ⟨g', o', e, hg, hl⟩
 ·exact .inl (by rw [h]; exact List.drop_nil)
 ·cases e
  refine .inr ⟨g, _, rfl, hg, fun k v hv => ?_⟩
  rw [List.getElem?_drop] at hv
  obtain ⟨l1, l2⟩ := hl _ _ hv
  rw [show o + i * 2 + 2 * k = o + 2 * (i + k) by omega]
  exact ⟨l1, l2⟩
end Go.Proofs.YtonmancgalencaaGreatDoor
