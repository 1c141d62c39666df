/- So -/
import Derived.Test.YtihoodeaaamlfaaGreatDoorQ12
import Derived.Test.YtihoodeaaamlfaaGreatDoorC16
import Derived.Test.YtihoodeaaamlfaaGreatDoorR12
import Derived.Test.YtihoodeaaamlfaaGreatDoorSm
import Derived.Deep.AppendSrc
import Derived.Deep.DeepAppendWide
import Derived.Test.YtihoodeaaamlfaaGreatDoorFrame
import Derived.Test.YtihoodeaaamlfaaGreatDoorRel
import Derived.Sort.AssemblyPlain
set_option linter.unusedVariables false
set_option linter.unusedSimpArgs false
set_option maxRecDepth 100000
set_option maxHeartbeats 4000000
namespace Go.Proofs.YtihoodeaaamlfaaGreatDoor
open Go.RowKit
structure Kept (b g : Nat) (w w' : World) : Prop where
 os : w'.os = w.os
 tape : w'.tape = w.tape
 output : w'.output = w.output
 size : w.heap.size <= w'.heap.size
 block : ∀ k, k < w.heap.size -> k ≠ b -> k ≠ g -> w'.heap[k]? = w.heap[k]?
theorem Kept.refl (b g : Nat) (w : World) : Kept b g w w := ⟨rfl, rfl, rfl, Nat.le_refl _, fun _ _ _ _ => rfl⟩
theorem Kept.of {b g : Nat} {w w' : World} (h : Below w.heap.size w w') : Kept b g w w' := ⟨h.os, h.tape, h.output, h.size, fun k hk _ _ => h.block k hk⟩
theorem Kept.trans {b g g' : Nat} {w w1 w2 : World} (h : Kept b g w w1) (k : Kept b g' w1 w2) (hg : g' = g \/ w.heap.size <= g') : Kept b g w w2 :=
 ⟨k.os.trans h.os, k.tape.trans h.tape, k.output.trans h.output, Nat.le_trans h.size k.size, fun i hi h1 h2 => (k.block i (Nat.lt_of_lt_of_le hi h.size) h1 (by
  rcases hg with rfl | hg
  ·exact h2
  ·omega)).trans (h.block i hi h1 h2)⟩
theorem Kept.row {b g k : Nat} {w : World} (c : Array Value) (hk : k = b \/ k = g) : Kept b g w (w.setRow k c) :=
 ⟨rfl, rfl, rfl, by rw [size_setRow']; exact Nat.le_refl _, fun i _ h1 h2 => objAt_setRow_ne w k i c (by rcases hk with rfl | rfl <;> assumption)⟩
theorem Kept.obj {b g k : Nat} {w w' : World} {o : Obj} (h : Kept b g w w') (hk : objAt w k = some o) (h1 : k ≠ b) (h2 : k ≠ g) : objAt w' k = some o := (h.block k (lt_of_objAt hk) h1 h2).trans hk
theorem Kept.below {b g : Nat} {w0 w w' : World} (h : Kept b g w w') (hb : Below w0.heap.size w0 w) (h1 : w0.heap.size <= b) (h2 : w0.heap.size <= g) : Below w0.heap.size w0 w' :=
 ⟨h.os.trans hb.os, h.tape.trans hb.tape, h.output.trans hb.output, Nat.le_trans hb.size h.size, fun k hk => (h.block k (Nat.lt_of_lt_of_le hk hb.size) (by omega) (by omega)).trans (hb.block k hk)⟩
def KIn (cs : Array Value) (o n : Nat) (K : Nat -> Nat -> Int) : Prop := ∀ j, j < n -> ∀ i, i < 32 -> cs[o + (j * 32 + i)]? = some (.int .u8 (K j i))
theorem KIn.list {w : World} {g o n : Nat} {cs : Array Value} {t : TypeId} {fr : Nat × Nat} {K : Nat -> Nat -> Int} (h : KIn cs o n K) (hg : objAt w g = some (.cells cs t fr)) : ∀ x u, (k32L K n)[x]? = some u -> w.cell? ((⟨g, o, none⟩ : Addr).add x) = some u := fun x u hu => by
 obtain ⟨j, i, rfl, hj, hi⟩ := zqar (by decide) (zqf K n) hu;rw [zqj K j i hi n hj] at hu
 cases hu
 have e : (⟨g, o, none⟩ : Addr).add (j * 32 + i) = ⟨g, o + (j * 32 + i), none⟩ := by unfold Addr.add; split <;> simp_all
 rw [e, cell_of_row w g _ _ _ _ hg];exact h j hj i hi
theorem zqba {w : World} {oa : Option Addr} {m c : Nat} {F : Nat -> Nat -> Int} {t e : TypeId} (ht : Tryz.prog.underlying t = some (.slice e)) (h : K32At w oa m F) : Src Tryz.prog 32 t (.slice oa m c) m (k32L F m) w := by
 cases oa with
 | none =>
  rcases h with rfl | ⟨ad, e, -⟩
  ·exact Src.ofNil w ht c
  ·cases e
 | some ad => exact Src.ofSlice w ht ad m c _ (zqf F m) (fun x u hu => by
   rcases h with rfl | ⟨ad', e, hl⟩
   ·have hu : ([] : List Value)[x]? = some u := hu
    simp at hu
   ·cases e
    obtain ⟨j, i, rfl, hj, hi⟩ := zqar (by decide) (zqf F m) hu;rw [zqj F j i hi m hj] at hu
    cases hu
    exact hl w (Grew.refl _) j hj i hi) zqy
def catK (n : Nat) (K F : Nat -> Nat -> Int) : Nat -> Nat -> Int := fun j => if j < n then K j else F (j - n)
def Mine (e : TypeId) (w : World) (g : Nat) (oa : Option Addr) (n c : Nat) (K : Nat -> Nat -> Int) : Prop :=
 (n = 0 /\ c = 0) \/ ∃ o cs, oa = some ⟨g, o, none⟩ /\ n <= c /\ objAt w g = some (.cells cs e) /\ o + c * 32 <= cs.size /\ KIn cs o n K
theorem Mine.obj {e : TypeId} {w w' : World} {g : Nat} {oa : Option Addr} {n c : Nat} {K : Nat -> Nat -> Int} (h : Mine e w g oa n c K) (hw : ∀ cs, objAt w g = some (.cells cs e) -> objAt w' g = some (.cells cs e)) : Mine e w' g oa n c K := by
 rcases h with h | ⟨o, cs, h1, h2, h3, h4⟩
 ·exact .inl h
 ·exact .inr ⟨o, cs, h1, h2, hw _ h3, h4⟩
theorem Mine.nil (e : TypeId) (w : World) (g : Nat) (oa : Option Addr) (K : Nat -> Nat -> Int) : Mine e w g oa 0 0 K := .inl ⟨rfl, rfl⟩
theorem zqcb {t e : TypeId} {i : TypeInfo} {z : Value} (ht : Tryz.prog.underlying t = some (.slice e)) (hi : Tryz.prog.info? e = some i) (hz : i.zero = some z) (hsize : i.size = 32) (hby : i.bytes = 32) (hzs : z.cells.size = 32)
  (W : World) (g : Nat) (oa oa2 : Option Addr) (n c m c2 : Nat) (K F : Nat -> Nat -> Int) (hS : Mine e W g oa n c K) (hF : K32At W oa2 m F) (hnm : n + m <= 1048576) :
  ∃ g' oa' c' W', (∀ ty : TypeId, (appendNext #[t, t] ty #[.slice oa n c, .slice oa2 m c2]).run Tryz.prog W = .ok (.value (.slice oa' (n + m) c')) W') /\ Mine e W' g' oa' (n + m) c' (catK n K F) /\
   ((Below W.heap.size W W' /\ ((g' = W.heap.size /\ g' < W'.heap.size) \/ g' = g)) \/ (g' = g /\ ∃ cs cs', objAt W g = some (.cells cs e) /\ W' = W.setRow g cs')) := by
 have hs := zqba (c := c2) ht hF;have hcat : ∀ (cs : Array Value) (o : Nat), KIn cs o n K -> (∀ j, j < m -> ∀ i, i < 32 -> cs[o + n * 32 + (j * 32 + i)]? = some (.int .u8 (F j i))) -> KIn cs o (n + m) (catK n K F) := fun cs o h1 h2 j hj i hi => by
  unfold catK
  split
  ·exact h1 j ‹_› i hi
  ·have := h2 (j - n) (by omega) i hi
   rwa [show o + n * 32 + ((j - n) * 32 + i) = o + (j * 32 + i) by omega] at this
 by_cases hroom : n + m <= c
 ·rcases hS with ⟨rfl, rfl⟩ | ⟨o, cs, rfl, hnc, hg, hcs, hK⟩
  ·obtain rfl : m = 0 := by omega
   refine ⟨g, oa, 0, W, fun ty => ?_, .inl ⟨rfl, rfl⟩, .inl ⟨Grew.refl _, .inr rfl⟩⟩;have hr : (Builtin.append_ #[t, t] ty #[.slice oa 0 0, .slice oa2 0 c2]).run Tryz.prog W = .ok (.slice oa 0 0) W := by
    have h1 := hs.len W;have h2 : (Builtin.firstCells 32 0 (.slice oa2 0 c2)).run Tryz.prog W = .ok #[] W := hs.cells
    cases oa <;> simp [Builtin.append_, run_underlying ht, sizeOf, typeInfo, hi, hsize, h1, h2, storeCells]
   unfold appendNext
   simp only [Sem.run_bind, hr, Result.andThen_ok, Sem.run_pure]
  ·have hl := zqf F m
   have hr := fun ty : TypeId => run_append_room_src (P := Tryz.prog) W t t ty e i ht hi g o n c (.slice oa2 m c2) m (k32L F m) (by rw [hsize]; exact hs) hroom
    (fun j hj => by
     rw [hsize, cell_of_row W g _ _ _ _ hg];rw [hl] at hj
     simp; omega) (fun j _ => frozen_of_row W g _ _ _ hg)
   simp only [hsize, setCells_row g e _ _ cs W hg] at hr
   have hsz := putAll_size (k32L F m) (o + n * 32) cs;have hget := fun x => putAll_get (k32L F m) (o + n * 32) cs x (by rw [hl]; omega);refine ⟨g, _, c, _, fun ty => ?_, .inr ⟨o, putAll cs (o + n * 32) (k32L F m), rfl, hroom, keep_row _ hg, by rw [hsz]; exact hcs, hcat _ _ (fun j hj i hi => ?_) (fun j hj i hi => ?_)⟩, .inr ⟨rfl, cs, _, hg, rfl⟩⟩
   ·unfold appendNext
    simp only [Sem.run_bind, hr, Result.andThen_ok, Sem.run_pure]
   ·rw [hget, if_neg (by omega)]
    exact hK j hj i hi
   ·rw [hget, if_pos (by rw [hl]; omega), show o + n * 32 + (j * 32 + i) - (o + n * 32) = j * 32 + i by omega, zqj F j i hi m hj]
 ·have hold : (Builtin.firstCells i.size n (.slice oa n c)).run Tryz.prog W.drew = .ok (k32L K n).toArray W.drew := by
   rcases hS with ⟨rfl, rfl⟩ | ⟨o, cs, rfl, hnc, hg, hcs, hK⟩
   ·cases oa with
    | none => exact run_firstCells_none W.drew _ 0 0 0
    | some ad => exact run_firstCells_some W.drew _ 0 ad 0 0 [] (by simp) (fun x u hu => by simp at hu)
   ·exact run_firstCells_some W.drew _ n _ n c _ (by rw [hsize]; exact zqf K n) (hK.list (w := W.drew) hg)
  have hr := fun ty : TypeId => run_append_grow_src (P := Tryz.prog) W t t ty e i z ht hi hz oa n c (k32L K n) hold (.slice oa2 m c2) m (k32L F m) (by rw [hsize]; exact hs) (by omega) (by omega) (growslice_fits_wide (by omega) (by rw [hby]; omega));have hge := grownCap_ge W (n + m) c e;have lK := zqf K n;have lF := zqf F m;have hsz : ((k32L K n ++ k32L F m).toArray ++ Builtin.zeroCells z.cells (grownCap W (n + m) c e - (n + m))).size = grownCap W (n + m) c e * 32 := by
   simp only [Array.size_append, List.size_toArray, size_zeroCells, hzs, List.length_append, lK, lF]
   rw [<- Nat.add_mul, <- Nat.add_mul]
   congr 1
   omega
  have hat : ∀ x u, (k32L K n ++ k32L F m)[x]? = some u -> ((k32L K n ++ k32L F m).toArray ++ Builtin.zeroCells z.cells (grownCap W (n + m) c e - (n + m)))[x]? = some u := fun x u hu => by
   have hx : x < (k32L K n ++ k32L F m).length := (List.getElem?_eq_some_iff.1 hu).1;rw [Array.getElem?_append_left (by rw [List.size_toArray]; exact hx), List.getElem?_toArray];exact hu
  refine ⟨W.heap.size, _, _, W.drew.alloc (.cells ((k32L K n ++ k32L F m).toArray ++ Builtin.zeroCells z.cells (grownCap W (n + m) c e - (n + m))) e), fun ty => ?_, .inr ⟨0, _, rfl, hge, objAt_alloc_at _ _ _ rfl, by rw [hsz]; omega, hcat _ _ (fun j hj i hi => hat _ _ ?_) (fun j hj i hi => hat _ _ ?_)⟩, .inl ⟨Grew.alloc (Grew.drewN (Grew.refl _) 1) _, .inl ⟨rfl, by simp⟩⟩⟩
  ·unfold appendNext
   simp only [Sem.run_bind, hr, Result.andThen_ok, Sem.run_pure]
  ·rw [Nat.zero_add, List.getElem?_append_left (by rw [lK]; omega)]
   exact zqj K j i hi n hj
  ·rw [List.getElem?_append_right (by rw [lK]; omega), lK, show 0 + n * 32 + (j * 32 + i) - n * 32 = j * 32 + i by omega]
   exact zqj F j i hi m hj
def clearNext (ats : Array TypeId) (ty : TypeId) (args : Array Value) : Sem Next := do pure (.value (<- Builtin.clear_ ats ty args))
@[go_sem ↓ high] theorem clear_keys (ty : TypeId) (cs : Array Bool) (args : Array Value) : builtin .clear #[39] ty cs args = clearNext #[39] ty args := by unfold clearNext; rfl
attribute [irreducible] clearNext
def offK (oa : Option Addr) (c k : Nat) : Option Addr := if c = k then oa else oa.map (·.add (k * 32))
theorem Mine.rest {w w' : World} {g n c z o : Nat} {K : Nat -> Nat -> Int} {cs : Array Value} (hg : objAt w' g = some (.cells cs 29)) (hs : o + c * 32 <= cs.size) (hnc : n <= c) (hz : z <= n) (hK : KIn cs (o + z * 32) (n - z) K) : Mine 29 w' g (offK (some ⟨g, o, none⟩) c z) (n - z) (c - z) K := by
 by_cases e : c = z
 ·exact .inl ⟨by omega, by omega⟩
 ·unfold offK
  rw [if_neg e];refine .inr ⟨o + z * 32, cs, ?_, by omega, hg, ?_, hK⟩
  ·simp [add_lit0]
  ·have h1 : c * 32 = z * 32 + (c - z) * 32 := by omega
   omega
theorem K32At.rest {w : World} {oa : Option Addr} {n c z : Nat} {F : Nat -> Nat -> Int} (h : K32At w oa n F) (hz : z <= n) (hc : n <= c) : K32At w (offK oa c z) (n - z) (fun j => F (z + j)) := by
 by_cases e : n = z
 ·exact .inl (by omega)
 ·rcases h with h | ⟨ad, rfl, hl⟩
  ·exact .inl (by omega)
  ·unfold offK
   rw [if_neg (by omega)];refine .inr ⟨_, rfl, fun W hb j hj i hi => ?_⟩;rw [Go.Deep.add_add, show z * 32 + (j * 32 + i) = (z + j) * 32 + i by omega];exact hl W hb (z + j) (by omega) i hi
theorem isNaN_u32 (x : Int) (w : World) : Calls Tryz.prog 68 #[.int .u32 x] w fun e w' => e = .returned (.bool false) /\ w' = w := by
 go_enter Tryz.func68, Tryz.ntmps68
 go_wp2;go_ret;exact ⟨rfl, rfl⟩
theorem less_u32 (x y : Int) (w : World) : Calls Tryz.prog 46 #[.int .u32 x, .int .u32 y] w fun e w' => e = .returned (.bool (decide (x < y))) /\ w' = w := by
 go_enter Tryz.func46, Tryz.ntmps46
 go_wp2_with fail;refine (isNaN_u32 _ _).mono ?_
 rintro e _ ⟨rfl, rfl⟩;go_wp2;go_ret;exact ⟨rfl, rfl⟩
theorem hidS {p : Prop} (h : p) : Hid p := h
def SrtAt (w : World) (g : Nat) (d : Array Int) : Prop := ∃ cur, objAt w g = some (.cells cur 27) /\ d.size <= cur.size /\ ∀ i, i < d.size -> cur[i]? = some (.int .u32 d[i]!)
theorem SrtAt.lt {w : World} {g : Nat} {d : Array Int} (h : SrtAt w g d) : g < w.heap.size := by
 obtain ⟨_, h, _⟩ := h;exact lt_of_objAt h
theorem SrtAt.below {w w' : World} {g : Nat} {d : Array Int} (h : SrtAt w g d) (hb : Below w.heap.size w w') : SrtAt w' g d := by
 obtain ⟨cur, h, h2⟩ := h;exact ⟨cur, keep_below hb h, h2⟩
theorem SrtAt.drew {w : World} {g : Nat} {d : Array Int} (h : SrtAt w g d) : SrtAt w.drew g d := h
theorem Kept.drew {b g : Nat} {w w' : World} (h : Kept b g w w') : Kept b g w w'.drew := ⟨h.os, h.tape, h.output, h.size, h.block⟩
theorem SrtAt.swap {w : World} {g : Nat} {d : Array Int} {cur : Array Value} (hg : objAt w g = some (.cells cur 27)) (hs : d.size <= cur.size) (hc : ∀ i, i < d.size -> cur[i]? = some (.int .u32 d[i]!)) {i j : Nat} (hi : i < d.size) (hj : j < d.size) :
  SrtAt (w.setRow g ((cur.setIfInBounds i (.int .u32 d[j]!)).setIfInBounds j (.int .u32 d[i]!))) g (Go.Sort.swp d i j) := by
 refine ⟨_, keep_row _ hg, by simp [Go.Sort.swp]; exact hs, fun k hk => ?_⟩;have hk' : k < d.size := by simpa [Go.Sort.swp] using hk
 have e1 : (Go.Sort.swp d i j)[k]! = if j = k then d[i]! else if i = k then d[j]! else d[k]! := by
  rw [getElem!_def]
  simp only [Go.Sort.swp, Array.getElem?_setIfInBounds, Array.size_setIfInBounds]
  by_cases h1 : j = k
  ·subst h1; simp [hj]
  ·by_cases h2 : i = k
   ·subst h2; simp [h1, hi]
   ·simp [h1, h2, getElem!_def]
 rw [e1]
 simp only [Array.getElem?_setIfInBounds, Array.size_setIfInBounds]
 by_cases h1 : j = k
 ·subst h1; simp; omega
 ·by_cases h2 : i = k
  ·subst h2; simp [h1]; omega
  ·simp [h1, h2, hc k hk']
theorem zqaa (g c a b : Nat) (d : Array Int) (w : World) (hS : SrtAt w g d) (hab : a <= b) (hb : b <= d.size) (hn : d.size <= 1000000) :
  Calls Tryz.prog 44 #[.slice (some ⟨g, 0, none⟩) d.size c, .int .i64 a, .int .i64 b] w fun e w' => e = .returned (.tuple #[]) /\ SrtAt w' g (Go.Sort.reverseRange d a b) /\ Kept g g w w' := by
 go_enter Tryz.func44, Tryz.ntmps44
 go_wp2_with fail
 go_loopw [6, 7] (fun vi vj wr => ∃ (i : Nat) (j : Int) (dk : Array Int), vi = .int .i64 i /\ vj = .int .i64 j /\ dk.size = d.size /\ i <= b /\ j < (b : Int) /\ -1 <= j /\ SrtAt wr g dk /\ Kept g g w wr /\ Go.Sort.reverseLoop i j.toNat dk = Go.Sort.reverseRange d a b) (fun _ vj _ => ((intOf vj) + 1).toNat)
 case atStart =>
  refine ⟨a, (b : Int) - 1, d, rfl, by go_num, rfl, hab, by omega, by omega, hS, Kept.refl _ _ _, ?_⟩;unfold Go.Sort.reverseRange
  congr 1
  omega
 case round =>
  obtain ⟨i, j, dk, rfl, rfl, hsz, hib, hj1, hj0, hSk, hK, hR⟩ := hrel
  by_cases hlt : (i : Int) < j
  ·obtain ⟨k, rfl⟩ : ∃ k : Nat, j = (k : Int) := ⟨j.toNat, by omega⟩
   obtain ⟨cur, hg, hsc, hc⟩ := hSk;have hxi := hc i (by omega);have hyk := hc k (by omega);have HX : Hid (SrtAt (wr.setRow g ((cur.setIfInBounds i (.int .u32 dk[k]!)).setIfInBounds k (.int .u32 dk[i]!))) g (Go.Sort.swp dk i k)) := SrtAt.swap hg hsc hc (by omega) (by omega);have HR : Hid (Go.Sort.reverseLoop i (k : Int).toNat dk = Go.Sort.reverseRange d a b) := hR;have HK : Hid (Kept g g w wr) := hK;have lg := lt_of_objAt hg;have h1 : (k : Int) < (d.size : Int) := by omega
   have h2 : (i : Int) < (d.size : Int) := by omega
   have h3 : (0 : Int) <= (i : Int) := by omega
   have h4 : (0 : Int) <= (k : Int) := by omega
   have hki : k ≠ i := by omega
   have hik : i ≠ k := by omega
   generalize dk[i]! = x at *;generalize dk[k]! = y at *;clear hc hR hK hS;go_wp2_with fail
   go_region
   go_wp2
   go_roundw
   case rel =>
    refine ⟨i + 1, (k : Int) - 1, Go.Sort.swp dk i k, by go_num, by go_num, by simp [Go.Sort.swp]; exact hsz, by omega, by omega, by omega, HX.out.drew, (HK.out.trans (Kept.row _ (.inl rfl)) (.inl rfl)).drew, ?_⟩;have hR := HR.out;rw [Go.Sort.reverseLoop, if_pos (by omega)] at hR;rw [<- hR]
    congr 1
    omega
   case measure => (simp [intOf] <;> omega)
  ·go_wp2
   go_end0
   refine ⟨rfl, ?_, hK⟩;have hR' := hR;rw [Go.Sort.reverseLoop, if_neg (by omega)] at hR';rw [<- hR'];exact hSk
theorem lessC (x y : Int) (W : World) : Calls Tryz.prog 46 #[.int .u32 x, .int .u32 y] W (Rt W (.bool (decide (x < y)))) := (less_u32 x y W).mono fun e w' h => ⟨h.1, by rw [h.2]; exact Grew.refl _⟩
theorem ins_stop (a j : Nat) (d : Array Int) (h : a < j -> Go.Sort.ltInt d[j]! d[j - 1]! = false) : Go.Sort.insInner Go.Sort.ltInt a j d = d := by
 cases j with
 | zero => rfl
 | succ j =>
  rw [Go.Sort.insInner, if_neg];rw [Bool.and_eq_true, decide_eq_true_eq];rintro ⟨h3, h4⟩;have := h h3;rw [Nat.add_sub_cancel] at this;rw [this] at h4
  cases h4
theorem ins_go (a j : Nat) (d : Array Int) (h : a < j) (h2 : Go.Sort.ltInt d[j]! d[j - 1]! = true) : Go.Sort.insInner Go.Sort.ltInt a j d = Go.Sort.insInner Go.Sort.ltInt a (j - 1) (Go.Sort.swp d j (j - 1)) := by
 cases j with
 | zero => omega
 | succ j =>
  rw [Nat.add_sub_cancel] at h2 ⊢;rw [Go.Sort.insInner, if_pos];rw [Bool.and_eq_true, decide_eq_true_eq];exact ⟨h, h2⟩
theorem ins_outer (a b i : Nat) (d : Array Int) (h : i < b) : Go.Sort.insOuter Go.Sort.ltInt a b i d = Go.Sort.insOuter Go.Sort.ltInt a b (i + 1) (Go.Sort.insInner Go.Sort.ltInt a i d) := by
 rw [Go.Sort.insOuter, if_pos h]
theorem size_swp' (d : Array Int) (i j : Nat) : (Go.Sort.swp d i j).size = d.size := by simp [Go.Sort.swp]
theorem insertion_u32 (g c a b : Nat) (d : Array Int) (w : World) (hS : SrtAt w g d) (hab : a <= b) (hb : b <= d.size) (hn : d.size <= 1000000) :
  Calls Tryz.prog 40 #[.slice (some ⟨g, 0, none⟩) d.size c, .int .i64 a, .int .i64 b] w fun e w' => e = .returned (.tuple #[]) /\ SrtAt w' g (Go.Sort.insertionSort Go.Sort.ltInt d a b) /\ Kept g g w w' := by
 go_enter Tryz.func40, Tryz.ntmps40
 go_wp2_with fail
 go_loopw [6] (fun vi wr => ∃ (i : Nat) (dk : Array Int), vi = .int .i64 i /\ a < i /\ i <= b + 1 /\ dk.size = d.size /\ SrtAt wr g dk /\ Kept g g w wr /\ Hid (Go.Sort.insOuter Go.Sort.ltInt a b i dk = Go.Sort.insOuter Go.Sort.ltInt a b (a + 1) d)) (fun vi _ => b + 1 - (intOf vi).toNat)
 case atStart => exact ⟨a + 1, d, by go_num, by omega, by omega, rfl, hS, Kept.refl _ _ _, rfl⟩
 case round =>
  obtain ⟨i, dk, rfl, hai, hib, hsk, hSk, hK, HO⟩ := hrel;have HSk : Hid (SrtAt wr g dk) := hSk;clear hSk hS
  by_cases hlt : i < b
  ·have h1 : (i : Int) < (b : Int) := by omega
   go_wp2_with fail
   go_loopw [7] (fun vj wr2 => ∃ (j : Nat) (dj : Array Int), vj = .int .i64 j /\ a <= j /\ j <= i /\ dj.size = d.size /\ SrtAt wr2 g dj /\ Kept g g w wr2 /\ Hid (Go.Sort.insInner Go.Sort.ltInt a j dj = Go.Sort.insInner Go.Sort.ltInt a i dk)) (fun vj _ => (intOf vj).toNat)
   case atStart => exact ⟨i, dk, rfl, by omega, Nat.le_refl _, hsk, HSk.out, hK, rfl⟩
   case round =>
    clear hK;obtain ⟨j, dj, rfl, haj, hji, hsj, hSj, hK, HI⟩ := hrel;obtain ⟨cur, hg, hsc, hc⟩ := hSj;have lg := lt_of_objAt hg;have HSj : Hid (SrtAt wr g dj) := ⟨cur, hg, hsc, hc⟩
    have HK : Hid (Kept g g w wr) := hK;have OUT : Hid ((a < j -> Go.Sort.ltInt dj[j]! dj[j - 1]! = false) -> Go.Sort.insOuter Go.Sort.ltInt a b (i + 1) dj = Go.Sort.insOuter Go.Sort.ltInt a b (a + 1) d) := fun hs => by
     rw [<- HO.out, ins_outer a b i dk hlt, <- HI.out, ins_stop a j dj hs]
    clear hK
    by_cases hja : a < j
    ·have hxj := hc j (by omega)
     have hyj := hc (j - 1) (by omega);have e1 : (j : Int) - 1 = ((j - 1 : Nat) : Int) := by omega
     have h2 : (a : Int) < (j : Int) := by omega
     have h3 : (j : Int) < (d.size : Int) := by omega
     have h4 : ((j - 1 : Nat) : Int) < (d.size : Int) := by omega
     have h5 : (0 : Int) <= (j : Int) := by omega
     have h6 : (0 : Int) <= ((j - 1 : Nat) : Int) := by omega
     have hne : j ≠ j - 1 := by omega
     have HX := fun m => SrtAt.swap (w := more wr m) (keep_below (below_more wr m) hg) hsc hc (i := j) (j := j - 1) (by omega) (by omega);obtain ⟨x, hx⟩ : ∃ x, x = dj[j]! := ⟨_, rfl⟩
     obtain ⟨y, hy⟩ : ∃ y, y = dj[j - 1]! := ⟨_, rfl⟩
     rw [<- hx] at hxj;rw [<- hy] at hyj;rw [<- hx, <- hy] at HX OUT;have HXH : Hid (∀ m, SrtAt ((more wr m).setRow g ((cur.setIfInBounds j (.int .u32 y)).setIfInBounds (j - 1) (.int .u32 x))) g (Go.Sort.swp dj j (j - 1))) := HX;have HXY : Hid (x = dj[j]! /\ y = dj[j - 1]!) := ⟨hx, hy⟩
     clear HX hx hy hc;go_wp2_with fail
     ((first | (with_reducible refine wp_region_on zqa zqa ?_) | refine wp_region_more zqa zqa ?_); (refine zAg ?_); refine wpQuiet_nil ?_; rintro _ ⟨mq, rfl⟩)
     have hgm : objAt (more wr mq) g = some (.cells cur 27) := keep_below (below_more wr mq) hg;have HKm : Hid (Kept g g w (more wr mq)) := HK.out.trans (Kept.of (below_more wr mq)) (.inl rfl);have HXm : Hid (SrtAt ((more wr mq).setRow g ((cur.setIfInBounds j (.int .u32 y)).setIfInBounds (j - 1) (.int .u32 x))) g (Go.Sort.swp dj j (j - 1))) := HXH.out mq;have HSm : Hid (SrtAt (more wr mq) g dj) := HSj.out.below (below_more wr mq);clear HXH HK HSj hg lg;generalize more wr mq = w4 at *;have lg := lt_of_objAt hgm
     by_cases hl : x < y
     ·go_wp2_with fail
      go_region
      go_wp2
      go_roundw
      case rel =>
       first
       | exact ⟨j - 1, Go.Sort.swp dj j (j - 1), by go_num, by omega, by omega, by rw [size_swp']; exact hsj, HXm.out.drew, (HKm.out.trans (Kept.row _ (.inl rfl)) (.inl rfl)).drew, (by
        rw [<- HI.out, ins_go a j dj hja (by rw [<- HXY.out.1, <- HXY.out.2]; simpa [Go.Sort.ltInt] using hl)]; rfl)⟩
       | trace_state
      case measure => (simp [intOf] <;> omega)
     ·go_wp2
      go_roundw
      case rel =>
       first
       | exact ⟨i + 1, dj, by go_num, by omega, by omega, hsj, HSm.out, HKm.out, OUT.out (fun _ => by simpa [Go.Sort.ltInt] using hl)⟩
       | ((repeat' apply Exists.intro) <;> first | exact ⟨⟨i + 1, dj, by go_num, by omega, by omega, hsj, HSm.out, HKm.out, OUT.out (fun _ => by simpa [Go.Sort.ltInt] using hl)⟩, rfl⟩ | exact undef)
      case measure => (simp [intOf] <;> omega)
    ·have h2 : ¬ ((a : Int) < (j : Int)) := by omega
     clear hc;go_wp2_with fail
     ((first | (with_reducible refine wp_region_on zqa zqa ?_) | refine wp_region_more zqa zqa ?_); (refine zAg ?_); refine wpQuiet_nil ?_; rintro _ ⟨mq, rfl⟩)
     have HKm : Hid (Kept g g w (more wr mq)) := HK.out.trans (Kept.of (below_more wr mq)) (.inl rfl);have HSm : Hid (SrtAt (more wr mq) g dj) := HSj.out.below (below_more wr mq);clear HK HSj hg lg;generalize more wr mq = w4 at *;go_wp2
     go_roundw
     case rel =>
      first
      | exact ⟨i + 1, dj, by go_num, by omega, by omega, hsj, HSm.out, HKm.out, OUT.out (fun h => absurd h hja)⟩
      | ((repeat' apply Exists.intro) <;> first | exact ⟨⟨i + 1, dj, by go_num, by omega, by omega, hsj, HSm.out, HKm.out, OUT.out (fun h => absurd h hja)⟩, rfl⟩ | exact undef)
     case measure => (simp [intOf] <;> omega)
  ·have h1 : ¬ ((i : Int) < (b : Int)) := by omega
   go_wp2
   go_end0
   refine ⟨rfl, ?_, hK⟩;have hO := HO.out;rw [Go.Sort.insOuter, if_neg hlt] at hO;unfold Go.Sort.insertionSort;rw [<- hO];exact HSk.out
def IsCh (hi first r : Nat) (d : Array Int) (ch : Nat) : Prop :=
 (ch = 2 * r + 2 /\ 2 * r + 2 < hi /\ Go.Sort.ltInt d[first + (2 * r + 1)]! d[first + (2 * r + 2)]! = true) \/ (ch = 2 * r + 1 /\ ¬ (2 * r + 2 < hi /\ Go.Sort.ltInt d[first + (2 * r + 1)]! d[first + (2 * r + 2)]! = true))
theorem zqa8 {hi first r : Nat} {d : Array Int} (h : hi <= 2 * r + 1) : Go.Sort.siftDown Go.Sort.ltInt hi first r d = d := by
 rw [Go.Sort.siftDown, dif_pos h]
theorem sift_stop {hi first r ch : Nat} {d : Array Int} (h : ¬ hi <= 2 * r + 1) (hc : IsCh hi first r d ch) (hl : Go.Sort.ltInt d[first + r]! d[first + ch]! = false) : Go.Sort.siftDown Go.Sort.ltInt hi first r d = d := by
 rw [Go.Sort.siftDown, dif_neg h]
 rcases hc with ⟨rfl, h1, h2⟩ | ⟨rfl, h1⟩
 ·rw [if_pos (by rw [Bool.and_eq_true, decide_eq_true_eq]; exact ⟨h1, h2⟩), if_pos (by rw [hl]; rfl)]
 ·rw [if_neg (by rw [Bool.and_eq_true, decide_eq_true_eq]; exact h1), if_pos (by rw [hl]; rfl)]
theorem sift_go {hi first r ch : Nat} {d : Array Int} (h : ¬ hi <= 2 * r + 1) (hc : IsCh hi first r d ch) (hl : Go.Sort.ltInt d[first + r]! d[first + ch]! = true) : Go.Sort.siftDown Go.Sort.ltInt hi first r d = Go.Sort.siftDown Go.Sort.ltInt hi first ch (Go.Sort.swp d (first + r) (first + ch)) := by
 rw [Go.Sort.siftDown, dif_neg h]
 rcases hc with ⟨rfl, h1, h2⟩ | ⟨rfl, h1⟩
 ·rw [if_pos (by rw [Bool.and_eq_true, decide_eq_true_eq]; exact ⟨h1, h2⟩), if_neg (by rw [hl]; decide), dif_pos h1]
 ·rw [if_neg (by rw [Bool.and_eq_true, decide_eq_true_eq]; exact h1), if_neg (by rw [hl]; decide)]
theorem zqaf (g c lo hi first : Nat) (d : Array Int) (w : World) (hS : SrtAt w g d) (hh : first + hi <= d.size) (hlo : lo <= 1000000) (hn : d.size <= 1000000) :
  Calls Tryz.prog 63 #[.slice (some ⟨g, 0, none⟩) d.size c, .int .i64 lo, .int .i64 hi, .int .i64 first] w fun e w' => e = .returned (.tuple #[]) /\ SrtAt w' g (Go.Sort.siftDown Go.Sort.ltInt hi first lo d) /\ Kept g g w w' := by
 go_enter Tryz.func63, Tryz.ntmps63
 go_wp2_with fail
 go_loopw [8] (fun vr wr => ∃ (r : Nat) (dk : Array Int), vr = .int .i64 r /\ r <= 1000000 /\ dk.size = d.size /\ SrtAt wr g dk /\ Kept g g w wr /\ Hid (Go.Sort.siftDown Go.Sort.ltInt hi first r dk = Go.Sort.siftDown Go.Sort.ltInt hi first lo d)) (fun vr _ => hi - (intOf vr).toNat)
 case atStart => exact ⟨lo, d, rfl, hlo, rfl, hS, Kept.refl _ _ _, rfl⟩
 case round =>
  obtain ⟨r, dk, rfl, hr, hsk, ⟨cur, hg, hcc⟩, hK, HO⟩ := hrel;have HC := hidS hcc;have HK := hidS hK;have lg := lt_of_objAt hg;clear hcc hK hS;obtain ⟨c1, hc1⟩ : ∃ c1, c1 = 2 * r + 1 := ⟨_, rfl⟩
  have e1 : (2 : Int) * (r : Int) + 1 = (c1 : Int) := by omega
  have hc9 : (c1 : Int) <= 3000000 := by omega
  have hw1 : IntKind.i64.wrap (c1 : Int) = (c1 : Int) := by rw [IntKind.wrap_i64]; omega
  by_cases h1 : hi <= c1
  ·have h1' : (hi : Int) <= (c1 : Int) := by omega
   have hx1 : hi <= 2 * r + 1 := by omega
   have HX1 := hidS hx1;clear hc1 hx1;go_wp2
   first | go_end0 | ((try simp only [Exit.inBlock, Exit.then]); refine bodyPost_ret (results_none rfl _ _ _) rfl ?_)
   refine ⟨rfl, ?_, HK.out⟩;rw [<- HO.out, zqa8 HX1.out];exact ⟨cur, hg, HC.out⟩
  have h1' : ¬ ((hi : Int) <= (c1 : Int)) := by omega
  obtain ⟨c2, hc2⟩ : ∃ c2, c2 = c1 + 1 := ⟨_, rfl⟩
  obtain ⟨p0, hp0⟩ : ∃ p, p = first + r := ⟨_, rfl⟩
  obtain ⟨p1, hp1⟩ : ∃ p, p = first + c1 := ⟨_, rfl⟩
  obtain ⟨p2, hp2⟩ : ∃ p, p = first + c2 := ⟨_, rfl⟩
  have e2 : (first : Int) + (r : Int) = (p0 : Int) := by omega
  have e3 : (first : Int) + (c1 : Int) = (p1 : Int) := by omega
  have e4 : (p1 : Int) + 1 = (p2 : Int) := by omega
  have e5 : (c1 : Int) + 1 = (c2 : Int) := by omega
  have e6 : (first : Int) + (c2 : Int) = (p2 : Int) := by omega
  have b0 : (p0 : Int) < (d.size : Int) := by omega
  have b1 : (p1 : Int) < (d.size : Int) := by omega
  have z0 : (0 : Int) <= (p0 : Int) := by omega
  have z1 : (0 : Int) <= (p1 : Int) := by omega
  have z2 : (0 : Int) <= (p2 : Int) := by omega
  have n1 : p0 ≠ p1 := by omega
  have n2 : p0 ≠ p2 := by omega
  obtain ⟨x0, hx0⟩ : ∃ x, x = dk[p0]! := ⟨_, rfl⟩
  obtain ⟨x1, hx1⟩ : ∃ x, x = dk[p1]! := ⟨_, rfl⟩
  obtain ⟨x2, hx2⟩ : ∃ x, x = dk[p2]! := ⟨_, rfl⟩
  have l0 := HC.out.2 p0 (by omega);have l1 := HC.out.2 p1 (by omega);have l2 : p2 < d.size -> cur[p2]? = some (.int .u32 x2) := fun h => by rw [hx2]; exact HC.out.2 p2 (by omega)
  rw [<- hx0] at l0;rw [<- hx1] at l1;have HX : Hid (x0 = dk[p0]! /\ x1 = dk[p1]! /\ x2 = dk[p2]! /\ p0 = first + r /\ p1 = first + c1 /\ p2 = first + c2 /\ c1 = 2 * r + 1 /\ c2 = c1 + 1) := ⟨hx0, hx1, hx2, hp0, hp1, hp2, hc1, hc2⟩
  have k1 : hi <= 2 * r + 1 -> False := by omega
  have k2 : c2 < hi -> p2 < d.size := by omega
  have k3 : c2 < hi -> c2 <= 1000000 := by omega
  have k4 : c1 <= 1000000 /\ r < c1 /\ r < c2 /\ r < hi /\ c1 < hi := by omega
  have k5 : p0 < dk.size /\ p1 < dk.size := by omega
  have k6 : p2 < d.size -> p2 < dk.size := by omega
  clear hx0 hx1 hx2 hp0 hp1 hp2 hc1 hc2
  by_cases h2 : c2 < hi
  ·have h2' : (c2 : Int) < (hi : Int) := by omega
   replace l2 := l2 (k2 h2);have b2 : (p2 : Int) < (d.size : Int) := by have := k2 h2; omega
   by_cases h3 : x1 < x2
   ·go_wp2_with fail
    ((first | (with_reducible refine wp_region_on zqa zqa ?_) | refine wp_region_more zqa zqa ?_); (refine zAg ?_); refine wpQuiet_nil ?_; rintro _ ⟨mq, rfl⟩)
    replace hg : objAt (more wr mq) g = some (.cells cur 27) := keep_below (below_more wr mq) hg;replace HK := hidS (HK.out.trans (Kept.of (below_more wr mq)) (.inl rfl));clear lg;generalize more wr mq = w4 at *;have lg := lt_of_objAt hg;have HI : Hid (IsCh hi first r dk c2) := (by have := HX.out; exact .inl ⟨by omega, by omega, by rw [show first + (2 * r + 1) = p1 by omega, show first + (2 * r + 2) = p2 by omega, <- this.2.1, <- this.2.2.1]; simpa [Go.Sort.ltInt] using h3⟩)
    go_wp2_with fail
    by_cases hl : x0 < x2
    ·have cL : ∀ W : World, Calls Tryz.prog 46 #[.int .u32 x0, .int .u32 x2] W (Rt W (.bool true)) := fun W => by have := lessC x0 x2 W; simpa only [hl, decide_true] using this
     ((first | (with_reducible refine wp_region_on zqa zqa ?_) | refine wp_region_more zqa zqa ?_); (refine zAa ?_); refine wpQuiet_nil ?_; rintro _ ⟨mq, rfl⟩)
     replace hg : objAt (more w4 mq) g = some (.cells cur 27) := keep_below (below_more w4 mq) hg;replace HK := hidS (HK.out.trans (Kept.of (below_more w4 mq)) (.inl rfl));clear lg;generalize more w4 mq = w5 at *;have lg := lt_of_objAt hg;have HS5 := hidS (SrtAt.swap hg HC.out.1 HC.out.2 (i := p0) (j := p2) k5.1 (k6 (k2 h2)));rw [<- HX.out.1, <- HX.out.2.2.1] at HS5;go_wp2_with fail
     go_region
     go_wp2
     go_roundw
     case rel => first | exact ⟨c2, Go.Sort.swp dk p0 p2, by go_num, k3 h2, by rw [size_swp']; exact hsk, HS5.out.drew, (HK.out.trans (Kept.row _ (.inl rfl)) (.inl rfl)).drew, by rw [<- HO.out, sift_go k1 HI.out (by have := HX.out; simp only [<- this.2.2.2.1, <- this.2.2.2.2.2.1, <- this.1, <- this.2.2.1]; simpa [Go.Sort.ltInt] using hl), <- HX.out.2.2.2.1, <- HX.out.2.2.2.2.2.1]; rfl⟩ | ((repeat' apply Exists.intro) <;> first | exact ⟨⟨c2, Go.Sort.swp dk p0 p2, by go_num, k3 h2, by rw [size_swp']; exact hsk, HS5.out.drew, (HK.out.trans (Kept.row _ (.inl rfl)) (.inl rfl)).drew, by rw [<- HO.out, sift_go k1 HI.out (by have := HX.out; simp only [<- this.2.2.2.1, <- this.2.2.2.2.2.1, <- this.1, <- this.2.2.1]; simpa [Go.Sort.ltInt] using hl), <- HX.out.2.2.2.1, <- HX.out.2.2.2.2.2.1]; rfl⟩, rfl⟩ | exact undef)
     case measure => (simp [intOf] <;> omega)
    ·have cL : ∀ W : World, Calls Tryz.prog 46 #[.int .u32 x0, .int .u32 x2] W (Rt W (.bool false)) := fun W => by have := lessC x0 x2 W; simpa only [hl, decide_false] using this
     ((first | (with_reducible refine wp_region_on zqa zqa ?_) | refine wp_region_more zqa zqa ?_); (refine zAa ?_); refine wpQuiet_nil ?_; rintro _ ⟨mq, rfl⟩)
     replace hg : objAt (more w4 mq) g = some (.cells cur 27) := keep_below (below_more w4 mq) hg;replace HK := hidS (HK.out.trans (Kept.of (below_more w4 mq)) (.inl rfl));clear lg;generalize more w4 mq = w5 at *;have lg := lt_of_objAt hg;go_wp2
     ((try simp only [Exit.inBlock, Exit.then]); refine bodyPost_ret (results_none rfl _ _ _) rfl ?_)
     refine ⟨rfl, ?_, HK.out⟩;rw [<- HO.out, sift_stop k1 HI.out (by have := HX.out; simp only [<- this.2.2.2.1, <- this.2.2.2.2.2.1, <- this.1, <- this.2.2.1]; simpa [Go.Sort.ltInt] using hl)];exact ⟨cur, hg, HC.out⟩
   ·go_wp2_with fail
    ((first | (with_reducible refine wp_region_on zqa zqa ?_) | refine wp_region_more zqa zqa ?_); (refine zAg ?_); refine wpQuiet_nil ?_; rintro _ ⟨mq, rfl⟩)
    replace hg : objAt (more wr mq) g = some (.cells cur 27) := keep_below (below_more wr mq) hg;replace HK := hidS (HK.out.trans (Kept.of (below_more wr mq)) (.inl rfl));clear lg;generalize more wr mq = w4 at *;have lg := lt_of_objAt hg;have HI : Hid (IsCh hi first r dk c1) := (by have := HX.out; refine .inr ⟨by omega, fun h => ?_⟩; have h9 := h.2; rw [show first + (2 * r + 1) = p1 by omega, show first + (2 * r + 2) = p2 by omega, <- this.2.1, <- this.2.2.1] at h9; simp [Go.Sort.ltInt] at h9; omega)
    go_wp2_with fail
    by_cases hl : x0 < x1
    ·have cL : ∀ W : World, Calls Tryz.prog 46 #[.int .u32 x0, .int .u32 x1] W (Rt W (.bool true)) := fun W => by have := lessC x0 x1 W; simpa only [hl, decide_true] using this
     ((first | (with_reducible refine wp_region_on zqa zqa ?_) | refine wp_region_more zqa zqa ?_); (refine zAa ?_); refine wpQuiet_nil ?_; rintro _ ⟨mq, rfl⟩)
     replace hg : objAt (more w4 mq) g = some (.cells cur 27) := keep_below (below_more w4 mq) hg;replace HK := hidS (HK.out.trans (Kept.of (below_more w4 mq)) (.inl rfl));clear lg;generalize more w4 mq = w5 at *;have lg := lt_of_objAt hg;have HS5 := hidS (SrtAt.swap hg HC.out.1 HC.out.2 (i := p0) (j := p1) k5.1 k5.2);rw [<- HX.out.1, <- HX.out.2.1] at HS5;go_wp2_with fail
     go_region
     go_wp2
     go_roundw
     case rel => first | exact ⟨c1, Go.Sort.swp dk p0 p1, by go_num, k4.1, by rw [size_swp']; exact hsk, HS5.out.drew, (HK.out.trans (Kept.row _ (.inl rfl)) (.inl rfl)).drew, by rw [<- HO.out, sift_go k1 HI.out (by have := HX.out; simp only [<- this.2.2.2.1, <- this.2.2.2.2.1, <- this.1, <- this.2.1]; simpa [Go.Sort.ltInt] using hl), <- HX.out.2.2.2.1, <- HX.out.2.2.2.2.1]; rfl⟩ | ((repeat' apply Exists.intro) <;> first | exact ⟨⟨c1, Go.Sort.swp dk p0 p1, by go_num, k4.1, by rw [size_swp']; exact hsk, HS5.out.drew, (HK.out.trans (Kept.row _ (.inl rfl)) (.inl rfl)).drew, by rw [<- HO.out, sift_go k1 HI.out (by have := HX.out; simp only [<- this.2.2.2.1, <- this.2.2.2.2.1, <- this.1, <- this.2.1]; simpa [Go.Sort.ltInt] using hl), <- HX.out.2.2.2.1, <- HX.out.2.2.2.2.1]; rfl⟩, rfl⟩ | exact undef)
     case measure => (simp [intOf] <;> omega)
    ·have cL : ∀ W : World, Calls Tryz.prog 46 #[.int .u32 x0, .int .u32 x1] W (Rt W (.bool false)) := fun W => by have := lessC x0 x1 W; simpa only [hl, decide_false] using this
     ((first | (with_reducible refine wp_region_on zqa zqa ?_) | refine wp_region_more zqa zqa ?_); (refine zAa ?_); refine wpQuiet_nil ?_; rintro _ ⟨mq, rfl⟩)
     replace hg : objAt (more w4 mq) g = some (.cells cur 27) := keep_below (below_more w4 mq) hg;replace HK := hidS (HK.out.trans (Kept.of (below_more w4 mq)) (.inl rfl));clear lg;generalize more w4 mq = w5 at *;have lg := lt_of_objAt hg;go_wp2
     ((try simp only [Exit.inBlock, Exit.then]); refine bodyPost_ret (results_none rfl _ _ _) rfl ?_)
     refine ⟨rfl, ?_, HK.out⟩;rw [<- HO.out, sift_stop k1 HI.out (by have := HX.out; simp only [<- this.2.2.2.1, <- this.2.2.2.2.1, <- this.1, <- this.2.1]; simpa [Go.Sort.ltInt] using hl)];exact ⟨cur, hg, HC.out⟩
  ·have h2' : ¬ ((c2 : Int) < (hi : Int)) := by omega
   clear l2;go_wp2_with fail
   ((first | (with_reducible refine wp_region_on zqa zqa ?_) | refine wp_region_more zqa zqa ?_); (refine zAg ?_); refine wpQuiet_nil ?_; rintro _ ⟨mq, rfl⟩)
   replace hg : objAt (more wr mq) g = some (.cells cur 27) := keep_below (below_more wr mq) hg;replace HK := hidS (HK.out.trans (Kept.of (below_more wr mq)) (.inl rfl));clear lg;generalize more wr mq = w4 at *;have lg := lt_of_objAt hg;have HI : Hid (IsCh hi first r dk c1) := (by have := HX.out; exact .inr ⟨by omega, fun h => by omega⟩)
   go_wp2_with fail
   by_cases hl : x0 < x1
   ·have cL : ∀ W : World, Calls Tryz.prog 46 #[.int .u32 x0, .int .u32 x1] W (Rt W (.bool true)) := fun W => by have := lessC x0 x1 W; simpa only [hl, decide_true] using this
    ((first | (with_reducible refine wp_region_on zqa zqa ?_) | refine wp_region_more zqa zqa ?_); (refine zAa ?_); refine wpQuiet_nil ?_; rintro _ ⟨mq, rfl⟩)
    replace hg : objAt (more w4 mq) g = some (.cells cur 27) := keep_below (below_more w4 mq) hg;replace HK := hidS (HK.out.trans (Kept.of (below_more w4 mq)) (.inl rfl));clear lg;generalize more w4 mq = w5 at *;have lg := lt_of_objAt hg;have HS5 := hidS (SrtAt.swap hg HC.out.1 HC.out.2 (i := p0) (j := p1) k5.1 k5.2);rw [<- HX.out.1, <- HX.out.2.1] at HS5;go_wp2_with fail
    go_region
    go_wp2
    go_roundw
    case rel => first | exact ⟨c1, Go.Sort.swp dk p0 p1, by go_num, k4.1, by rw [size_swp']; exact hsk, HS5.out.drew, (HK.out.trans (Kept.row _ (.inl rfl)) (.inl rfl)).drew, by rw [<- HO.out, sift_go k1 HI.out (by have := HX.out; simp only [<- this.2.2.2.1, <- this.2.2.2.2.1, <- this.1, <- this.2.1]; simpa [Go.Sort.ltInt] using hl), <- HX.out.2.2.2.1, <- HX.out.2.2.2.2.1]; rfl⟩ | ((repeat' apply Exists.intro) <;> first | exact ⟨⟨c1, Go.Sort.swp dk p0 p1, by go_num, k4.1, by rw [size_swp']; exact hsk, HS5.out.drew, (HK.out.trans (Kept.row _ (.inl rfl)) (.inl rfl)).drew, by rw [<- HO.out, sift_go k1 HI.out (by have := HX.out; simp only [<- this.2.2.2.1, <- this.2.2.2.2.1, <- this.1, <- this.2.1]; simpa [Go.Sort.ltInt] using hl), <- HX.out.2.2.2.1, <- HX.out.2.2.2.2.1]; rfl⟩, rfl⟩ | exact undef)
    case measure => (simp [intOf] <;> omega)
   ·have cL : ∀ W : World, Calls Tryz.prog 46 #[.int .u32 x0, .int .u32 x1] W (Rt W (.bool false)) := fun W => by have := lessC x0 x1 W; simpa only [hl, decide_false] using this
    ((first | (with_reducible refine wp_region_on zqa zqa ?_) | refine wp_region_more zqa zqa ?_); (refine zAa ?_); refine wpQuiet_nil ?_; rintro _ ⟨mq, rfl⟩)
    replace hg : objAt (more w4 mq) g = some (.cells cur 27) := keep_below (below_more w4 mq) hg;replace HK := hidS (HK.out.trans (Kept.of (below_more w4 mq)) (.inl rfl));clear lg;generalize more w4 mq = w5 at *;have lg := lt_of_objAt hg;go_wp2
    ((try simp only [Exit.inBlock, Exit.then]); refine bodyPost_ret (results_none rfl _ _ _) rfl ?_)
    refine ⟨rfl, ?_, HK.out⟩;rw [<- HO.out, sift_stop k1 HI.out (by have := HX.out; simp only [<- this.2.2.2.1, <- this.2.2.2.2.1, <- this.1, <- this.2.1]; simpa [Go.Sort.ltInt] using hl)];exact ⟨cur, hg, HC.out⟩
theorem td2 (n : Nat) : ((n : Int) - 1).tdiv 2 = (((n - 1) / 2 : Nat) : Int) := by
 cases n with
 | zero => rfl
 | succ n =>
  rw [show ((n + 1 : Nat) : Int) - 1 = (n : Int) by omega, Nat.add_sub_cancel]
  rfl
theorem zql (hi first : Nat) : ∀ (r : Nat) (d : Array Int), (Go.Sort.siftDown Go.Sort.ltInt hi first r d).size = d.size := fun r => by
 induction h : hi - r using Nat.strongRecOn generalizing r with
 | _ m ih =>
  intro d;rw [Go.Sort.siftDown]
  split
  ·rfl
  ·split
   ·split
    ·rfl
    ·split
     ·rw [ih _ (by omega) _ rfl, size_swp']
     ·rfl
   ·split
    ·rfl
    ·rw [ih _ (by omega) _ rfl, size_swp']
theorem zqa9 (g c a b : Nat) (d : Array Int) (w : World) (hS : SrtAt w g d) (hab : a <= b) (hb : b <= d.size) (hn : d.size <= 1000000) :
  Calls Tryz.prog 41 #[.slice (some ⟨g, 0, none⟩) d.size c, .int .i64 a, .int .i64 b] w fun e w' => e = .returned (.tuple #[]) /\ SrtAt w' g (Go.Sort.heapSort Go.Sort.ltInt d a b) /\ Kept g g w w' := by
 have e0 : (b : Int) - (a : Int) = ((b - a : Nat) : Int) := by omega
 have hn2 : a + (b - a) <= d.size := by omega
 obtain ⟨n, hN⟩ : ∃ n, n = b - a := ⟨_, rfl⟩
 rw [<- hN] at e0 hn2;have HNN : Hid (n = b - a) := hN;have hn1 : n <= 1000000 := by omega
 have e1 := td2 n;clear hN
 go_enter Tryz.func41, Tryz.ntmps41
 go_wp2_with fail
 go_loopw [9] (fun vi wr => ∃ (k : Nat) (dk : Array Int), vi = .int .i64 ((k : Int) - 1) /\ k <= (n - 1) / 2 + 1 /\ dk.size = d.size /\ SrtAt wr g dk /\ Kept g g w wr /\ Hid (Go.Sort.heapBuild Go.Sort.ltInt n a k dk = Go.Sort.heapBuild Go.Sort.ltInt n a ((n - 1) / 2 + 1) d)) (fun vi _ => ((intOf vi) + 1).toNat)
 case atStart => exact ⟨(n - 1) / 2 + 1, d, by go_num, Nat.le_refl _, rfl, hS, Kept.refl _ _ _, rfl⟩
 case round =>
  obtain ⟨k, dk, rfl, hk, hsk, hSk, hK, HO⟩ := hrel;have HS := hidS hSk;have HK := hidS hK;clear hSk hK hS
  rcases Nat.eq_zero_or_pos k with rfl | hk0
  ·have HD : Hid (dk = Go.Sort.heapBuild Go.Sort.ltInt n a ((n - 1) / 2 + 1) d) := HO.out
   clear HO;go_wp2_with fail
   go_loopw [10] (fun vi wr => ∃ (k : Nat) (dj : Array Int), vi = .int .i64 ((k : Int) - 1) /\ k <= n /\ dj.size = d.size /\ SrtAt wr g dj /\ Kept g g w wr /\ Hid (Go.Sort.heapPop Go.Sort.ltInt a k dj = Go.Sort.heapPop Go.Sort.ltInt a n dk)) (fun vi _ => ((intOf vi) + 1).toNat)
   case atStart => exact ⟨n, dk, by go_num, Nat.le_refl _, hsk, HS.out, HK.out, rfl⟩
   case round =>
    clear HS HK hk;obtain ⟨k, dj, rfl, hk, hsj, ⟨cur, hg, hcc⟩, hK, HO⟩ := hrel;have HC := hidS hcc;have HK := hidS hK;have lg := lt_of_objAt hg;clear hcc hK
    rcases Nat.eq_zero_or_pos k with rfl | hk0
    ·go_wp2
     go_end0
     refine ⟨rfl, ?_, HK.out⟩;unfold Go.Sort.heapSort;rw [<- HNN.out, <- HD.out, <- HO.out];exact ⟨cur, hg, HC.out⟩
    ·obtain ⟨j, rfl⟩ : ∃ j, k = j + 1 := ⟨k - 1, by omega⟩
     have e2 : ((j + 1 : Nat) : Int) - 1 = (j : Int) := by omega
     obtain ⟨p1, hp1⟩ : ∃ p, p = a + j := ⟨_, rfl⟩
     have e3 : (a : Int) + (j : Int) = (p1 : Int) := by omega
     have b0 : (a : Int) < (d.size : Int) := by omega
     have b1 : (p1 : Int) < (d.size : Int) := by omega
     have z0 : (0 : Int) <= (a : Int) := by omega
     have z1 : (0 : Int) <= (p1 : Int) := by omega
     have z2 : (0 : Int) <= (j : Int) := by omega
     obtain ⟨x0, hx0⟩ : ∃ x, x = dj[a]! := ⟨_, rfl⟩
     obtain ⟨x1, hx1⟩ : ∃ x, x = dj[p1]! := ⟨_, rfl⟩
     have l0 := HC.out.2 a (by omega);have l1 := HC.out.2 p1 (by omega);rw [<- hx0] at l0;rw [<- hx1] at l1;have l9 : (cur.setIfInBounds a (Value.int .u32 x1))[p1]? = some (.int .u32 x1) := by
      rw [Array.getElem?_setIfInBounds]
      split
      ·rw [if_pos (by have := HC.out.1; omega)]
      ·exact l1
     have HX := hidS (SrtAt.swap hg HC.out.1 HC.out.2 (i := a) (j := p1) (by omega) (by omega));rw [<- hx0, <- hx1] at HX;have HP := hidS hp1;clear hx0 hx1 hp1;have hj1 : a + j <= (Go.Sort.swp dj a p1).size := by rw [size_swp']; omega
     have hj2 : (Go.Sort.swp dj a p1).size <= 1000000 := by rw [size_swp']; omega
     have HJ := hidS (And.intro hj1 hj2);clear hj1 hj2;have cS := fun (W : World) (hS : SrtAt W g (Go.Sort.swp dj a p1)) => zqaf g c 0 j a (Go.Sort.swp dj a p1) W hS HJ.out.1 (by omega) HJ.out.2;rw [size_swp', hsj] at cS;go_wp2_with fail
     go_region
     go_wp2_with fail;refine (cS _ HX.out.drew).mono ?_
     rintro e w6 ⟨rfl, hS6, hK6⟩;have HS6 := hidS hS6;have HK6 := hidS ((HK.out.trans (Kept.row _ (.inl rfl)) (.inl rfl)).drew.trans hK6 (.inl rfl));clear hS6 hK6 cS HX HK hg lg;go_wp2
     go_roundw
     case rel => first | exact ⟨j, _, by go_num, by omega, by rw [zql, size_swp']; exact hsj, HS6.out, HK6.out, by rw [<- HO.out, HP.out]; rfl⟩ | ((repeat' apply Exists.intro) <;> first | exact ⟨⟨j, _, by go_num, by omega, by rw [zql, size_swp']; exact hsj, HS6.out, HK6.out, by rw [<- HO.out, HP.out]; rfl⟩, rfl⟩ | exact undef)
     case measure => (simp [intOf] <;> omega)
  ·obtain ⟨j, rfl⟩ : ∃ j, k = j + 1 := ⟨k - 1, by omega⟩
   have e2 : ((j + 1 : Nat) : Int) - 1 = (j : Int) := by omega
   have z2 : (0 : Int) <= (j : Int) := by omega
   have cS := zqaf g c j n a dk wr HS.out (by omega) (by omega) (by omega);rw [hsk] at cS;go_wp2_with fail;refine cS.mono ?_
   rintro e w6 ⟨rfl, hS6, hK6⟩;have HS6 := hidS hS6;have HK6 := hidS (HK.out.trans hK6 (.inl rfl));clear hS6 hK6 cS HS HK;go_wp2
   go_roundw
   case rel => first | exact ⟨j, _, by go_num, by omega, by rw [zql]; exact hsk, HS6.out, HK6.out, by rw [<- HO.out]; rfl⟩ | ((repeat' apply Exists.intro) <;> first | exact ⟨⟨j, _, by go_num, by omega, by rw [zql]; exact hsk, HS6.out, HK6.out, by rw [<- HO.out]; rfl⟩, rfl⟩ | exact undef)
   case measure => (simp [intOf] <;> omega)
def SwAt (w : World) (s k : Nat) : Prop := objAt w s = some (.cells #[.int .i64 (k : Int)] 3)
theorem SwAt.ne {w : World} {g s k : Nat} {d : Array Int} (hs : SwAt w s k) (hS : SrtAt w g d) : g ≠ s := fun e => by
 obtain ⟨cur, h, -⟩ := hS;unfold SwAt at hs;rw [e, hs] at h
 cases h
theorem SrtAt.kept {w w' : World} {g b c : Nat} {d : Array Int} (h : SrtAt w g d) (hk : Kept b c w w') (h1 : g ≠ b) (h2 : g ≠ c) : SrtAt w' g d := by
 obtain ⟨cur, h3, h4⟩ := h;exact ⟨cur, hk.obj h3 h1 h2, h4⟩
theorem zqm {d : Array Int} {a b k n : Nat} (ha : a < n) (hb : b < n) : (Go.Sort.order2 Go.Sort.ltInt d a b k).1 < n /\ (Go.Sort.order2 Go.Sort.ltInt d a b k).2.1 < n /\ (Go.Sort.order2 Go.Sort.ltInt d a b k).2.2 <= k + 1 := by
 unfold Go.Sort.order2
 split
 ·exact ⟨hb, ha, Nat.le_refl _⟩
 ·exact ⟨ha, hb, Nat.le_succ _⟩
theorem zqq (g s c a b k : Nat) (d : Array Int) (w : World) (hS : SrtAt w g d) (hs : SwAt w s k) (ha : a < d.size) (hb : b < d.size) (hk : k <= 1000) (hn : d.size <= 1000000) :
  Calls Tryz.prog 78 #[.slice (some ⟨g, 0, none⟩) d.size c, .int .i64 a, .int .i64 b, .pointer (some ⟨s, 0, none⟩)] w fun e w' => e = .returned (.tuple #[.int .i64 (((Go.Sort.order2 Go.Sort.ltInt d a b k).1 : Nat) : Int), .int .i64 (((Go.Sort.order2 Go.Sort.ltInt d a b k).2.1 : Nat) : Int)]) /\ SwAt w' s (Go.Sort.order2 Go.Sort.ltInt d a b k).2.2 /\ Kept s s w w' := by
 have hgs := hs.ne hS;obtain ⟨cur, hg, hc⟩ := hS;have hso : objAt w s = some (.cells #[.int .i64 (k : Int)] 3) := hs;have l0 := hc.2 a ha;have l1 := hc.2 b hb;obtain ⟨x, hx⟩ : ∃ x, x = d[a]! := ⟨_, rfl⟩
 obtain ⟨y, hy⟩ : ∃ y, y = d[b]! := ⟨_, rfl⟩
 rw [<- hx] at l0;rw [<- hy] at l1;have HX := hidS (And.intro hx hy);have lg := lt_of_objAt hg;have ls := lt_of_objAt hso;have h1 : (a : Int) < (d.size : Int) := by omega
 have h2 : (b : Int) < (d.size : Int) := by omega
 have h3 : (0 : Int) <= (a : Int) := by omega
 have h4 : (0 : Int) <= (b : Int) := by omega
 have h5 : (k : Int) <= 1000 := by omega
 have HK : Hid (Kept s s w w) := Kept.refl _ _ _;clear hs hc hx hy
 by_cases hl : y < x
 ·have cL : ∀ W : World, Calls Tryz.prog 46 #[.int .u32 y, .int .u32 x] W (Rt W (.bool true)) := fun W => by have := lessC y x W; simpa only [hl, decide_true] using this
  go_enter Tryz.func78, Tryz.ntmps78
  go_wp2_with fail
  ((first | (with_reducible refine wp_region_on zqa zqa ?_) | refine wp_region_more zqa zqa ?_); (refine zAa ?_); refine wpQuiet_nil ?_; rintro _ ⟨mq, rfl⟩)
  replace hso := keep_below (below_more w mq) hso;replace HK := hidS (Kept.of (b := s) (g := s) (below_more w mq));clear lg hg ls;generalize more w mq = w4 at *;have ls := lt_of_objAt hso;go_wp2;go_ret2;have e : Go.Sort.order2 Go.Sort.ltInt d a b k = (b, a, k + 1) := by
   unfold Go.Sort.order2;rw [<- HX.out.1, <- HX.out.2, if_pos (by simpa [Go.Sort.ltInt] using hl)]
  rw [e];exact ⟨rfl, by have := keep_row #[.int .i64 ((k : Int) + 1)] hso; simpa [SwAt] using this, HK.out.trans (Kept.row _ (.inl rfl)) (.inl rfl)⟩
 ·have cL : ∀ W : World, Calls Tryz.prog 46 #[.int .u32 y, .int .u32 x] W (Rt W (.bool false)) := fun W => by have := lessC y x W; simpa only [hl, decide_false] using this
  go_enter Tryz.func78, Tryz.ntmps78
  go_wp2_with fail
  ((first | (with_reducible refine wp_region_on zqa zqa ?_) | refine wp_region_more zqa zqa ?_); (refine zAa ?_); refine wpQuiet_nil ?_; rintro _ ⟨mq, rfl⟩)
  replace hso := keep_below (below_more w mq) hso;replace HK := hidS (Kept.of (b := s) (g := s) (below_more w mq));clear lg hg ls;generalize more w mq = w4 at *;go_wp2;go_ret2;have e : Go.Sort.order2 Go.Sort.ltInt d a b k = (a, b, k) := by
   unfold Go.Sort.order2;rw [<- HX.out.1, <- HX.out.2, if_neg (by simpa [Go.Sort.ltInt] using hl)]
  rw [e];exact ⟨rfl, hso, HK.out⟩
theorem zqo (g s c a b e k : Nat) (d : Array Int) (w : World) (hS : SrtAt w g d) (hs : SwAt w s k) (ha : a < d.size) (hb : b < d.size) (he : e < d.size) (hk : k <= 990) (hn : d.size <= 1000000) :
  Calls Tryz.prog 67 #[.slice (some ⟨g, 0, none⟩) d.size c, .int .i64 a, .int .i64 b, .int .i64 e, .pointer (some ⟨s, 0, none⟩)] w fun r w' => r = .returned (.int .i64 (((Go.Sort.median Go.Sort.ltInt d a b e k).1 : Nat) : Int)) /\ SwAt w' s (Go.Sort.median Go.Sort.ltInt d a b e k).2 /\ Kept s s w w' := by
 have hgs := hs.ne hS;have HS := hidS hS;have HC := hidS hs;have q1 := zqm (d := d) (k := k) ha hb;obtain ⟨o1, h1⟩ : ∃ o, o = Go.Sort.order2 Go.Sort.ltInt d a b k := ⟨_, rfl⟩
 rw [<- h1] at q1;have q2 := zqm (d := d) (k := o1.2.2) q1.2.1 he;obtain ⟨o2, h2⟩ : ∃ o, o = Go.Sort.order2 Go.Sort.ltInt d o1.2.1 e o1.2.2 := ⟨_, rfl⟩
 rw [<- h2] at q2;have q3 := zqm (d := d) (k := o2.2.2) q1.1 q2.1;obtain ⟨o3, h3⟩ : ∃ o, o = Go.Sort.order2 Go.Sort.ltInt d o1.1 o2.1 o2.2.2 := ⟨_, rfl⟩
 rw [<- h3] at q3;have hm : Hid (Go.Sort.median Go.Sort.ltInt d a b e k = (o3.2.1, o3.2.2)) := by
  subst h1 h2 h3
  rfl
 have c1 := fun (W : World) (hS : SrtAt W g d) (hs : SwAt W s k) => zqq g s c a b k d W hS hs ha hb (by omega) hn;have c2 := fun (W : World) (hS : SrtAt W g d) (hs : SwAt W s o1.2.2) => zqq g s c o1.2.1 e o1.2.2 d W hS hs q1.2.1 he (by omega) hn;have c3 := fun (W : World) (hS : SrtAt W g d) (hs : SwAt W s o2.2.2) => zqq g s c o1.1 o2.1 o2.2.2 d W hS hs q1.1 q2.1 (by omega) hn;rw [<- h1] at c1;rw [<- h2] at c2;rw [<- h3] at c3;clear h1 h2 h3 hS hs q1 q2 q3
 go_enter Tryz.func67, Tryz.ntmps67
 go_wp2_with fail;refine (c1 _ HS.out HC.out).mono ?_
 rintro r w1 ⟨rfl, hs1, hk1⟩;have HS1 := hidS (HS.out.kept hk1 hgs hgs);have HK1 := hidS hk1;have HC1 := hidS hs1;clear hs1 hk1 c1 HS HC;go_wp2_with fail;refine (c2 _ HS1.out HC1.out).mono ?_
 rintro r w2 ⟨rfl, hs1, hk1⟩;have HS2 := hidS (HS1.out.kept hk1 hgs hgs);have HK2 := hidS (HK1.out.trans hk1 (.inl rfl));have HC2 := hidS hs1;clear hs1 hk1 c2 HS1 HC1 HK1;go_wp2_with fail;refine (c3 _ HS2.out HC2.out).mono ?_
 rintro r w3 ⟨rfl, hs1, hk1⟩;have HK3 := hidS (HK2.out.trans hk1 (.inl rfl));have HC3 := hidS hs1;clear hs1 hk1 c3 HS2 HC2 HK2;go_wp2;go_ret;rw [hm.out];exact ⟨rfl, HC3.out, HK3.out⟩
theorem zqa0 {d : Array Int} {a b e k n : Nat} (ha : a < n) (hb : b < n) (he : e < n) : (Go.Sort.median Go.Sort.ltInt d a b e k).1 < n /\ (Go.Sort.median Go.Sort.ltInt d a b e k).2 <= k + 3 := by
 have q1 := zqm (d := d) (k := k) ha hb;have q2 := zqm (d := d) (k := (Go.Sort.order2 Go.Sort.ltInt d a b k).2.2) q1.2.1 he;have q3 := zqm (d := d) (k := (Go.Sort.order2 Go.Sort.ltInt d (Go.Sort.order2 Go.Sort.ltInt d a b k).2.1 e (Go.Sort.order2 Go.Sort.ltInt d a b k).2.2).2.2) q1.1 q2.1;unfold Go.Sort.median;exact ⟨q3.2.1, Nat.le_trans q3.2.2 (Nat.succ_le_succ (Nat.le_trans q2.2.2 (Nat.succ_le_succ q1.2.2)))⟩
theorem zqi (g s c a k : Nat) (d : Array Int) (w : World) (hS : SrtAt w g d) (hs : SwAt w s k) (ha : a + 1 < d.size) (ha1 : 1 <= a) (hk : k <= 990) (hn : d.size <= 1000000) :
  Calls Tryz.prog 66 #[.slice (some ⟨g, 0, none⟩) d.size c, .int .i64 a, .pointer (some ⟨s, 0, none⟩)] w fun r w' => r = .returned (.int .i64 (((Go.Sort.medianAdjacent Go.Sort.ltInt d a k).1 : Nat) : Int)) /\ SwAt w' s (Go.Sort.medianAdjacent Go.Sort.ltInt d a k).2 /\ Kept s s w w' := by
 have c1 := zqo g s c (a - 1) a (a + 1) k d w hS hs (by omega) (by omega) ha hk hn;have e1 : (a : Int) - 1 = ((a - 1 : Nat) : Int) := by omega
 have e2 : (a : Int) + 1 = ((a + 1 : Nat) : Int) := by omega
 have h2 : (a : Int) < 1000000 := by omega
 clear hS hs;unfold Go.Sort.medianAdjacent;generalize Go.Sort.median Go.Sort.ltInt d (a - 1) a (a + 1) k = M at *;generalize a - 1 = a0 at *;generalize a + 1 = a2 at *
 go_enter Tryz.func66, Tryz.ntmps66
 go_wp2_with fail;refine c1.mono ?_
 rintro r w1 ⟨rfl, hs1, hk1⟩;have HF := hidS (And.intro hs1 hk1);clear hs1 hk1 c1;go_wp2;go_ret;exact ⟨rfl, HF.out⟩
def zqn : Go.Sort.Hint -> Int
 | .unknown => 0
 | .increasing => 1
 | .decreasing => 2
theorem zqaj (g c a b : Nat) (d : Array Int) (w : World) (hS : SrtAt w g d) (hab : a < b) (hb : b <= d.size) (hn : d.size <= 1000000) :
  Calls Tryz.prog 43 #[.slice (some ⟨g, 0, none⟩) d.size c, .int .i64 a, .int .i64 b] w fun r w' => r = .returned (.tuple #[.int .i64 (((Go.Sort.choosePivot Go.Sort.ltInt d a b).1 : Nat) : Int), .int .i64 (zqn (Go.Sort.choosePivot Go.Sort.ltInt d a b).2)]) /\ Below w.heap.size w w' := by
 obtain ⟨l, hl⟩ : ∃ l, l = b - a := ⟨_, rfl⟩
 obtain ⟨q, hq⟩ : ∃ q, q = l / 4 := ⟨_, rfl⟩
 obtain ⟨i, hi⟩ : ∃ i, i = a + q * 1 := ⟨_, rfl⟩
 obtain ⟨j, hj⟩ : ∃ j, j = a + q * 2 := ⟨_, rfl⟩
 obtain ⟨k, hk⟩ : ∃ k, k = a + q * 3 := ⟨_, rfl⟩
 have e0 : (b : Int) - (a : Int) = (l : Int) := by omega
 have e1 : (l : Int).tdiv 4 = (q : Int) := by rw [hq]; rfl
 have e2 : (a : Int) + (q : Int) = (i : Int) := by omega
 have e3 : (a : Int) + (q : Int) * 2 = (j : Int) := by omega
 have e4 : (a : Int) + (q : Int) * 3 = (k : Int) := by omega
 have f1 : (q : Int) <= 1000000 := by omega
 have f2 : (q : Int) * 2 <= 3000000 := by omega
 have f3 : (q : Int) * 3 <= 3000000 := by omega
 have f4 : (0 : Int) <= (q : Int) := by omega
 have bi : i < d.size := by omega
 have bj : j < d.size := by omega
 have bk : k < d.size := by omega
 have i5 : (i : Int) <= 1000000 := by omega
 have j5 : (j : Int) <= 1000000 := by omega
 have k5 : (k : Int) <= 1000000 := by omega
 have HQ : Hid (50 <= l -> i + 1 < d.size /\ 1 <= i /\ j + 1 < d.size /\ 1 <= j /\ k + 1 < d.size /\ 1 <= k) := fun h => by omega
 obtain ⟨R, hR⟩ : ∃ R : Nat × Nat, R = (if l ≥ 8 then
   if l ≥ 50 then
    let ri := Go.Sort.medianAdjacent Go.Sort.ltInt d i 0
    let rj := Go.Sort.medianAdjacent Go.Sort.ltInt d j ri.2
    let rk := Go.Sort.medianAdjacent Go.Sort.ltInt d k rj.2
    Go.Sort.median Go.Sort.ltInt d ri.1 rj.1 rk.1 rk.2
   else Go.Sort.median Go.Sort.ltInt d i j k 0
  else (j, 0)) := ⟨_, rfl⟩
 have HP : Hid (Go.Sort.choosePivot Go.Sort.ltInt d a b = (R.1, if R.2 = 0 then .increasing else if R.2 = 12 then .decreasing else .unknown)) := by
  subst hR hi hj hk hq hl
  rfl
 have HR := hidS hR;have HS : Hid (SrtAt (w.alloc (.cells #[.int .i64 0] 3)) g d) := hS.below (Grew.alloc (Grew.refl _) _);have HW : Hid (SwAt (w.alloc (.cells #[.int .i64 0] 3)) w.heap.size 0) := objAt_alloc_at _ _ _ rfl;have hgs := HW.out.ne HS.out;have fs : objAt (w.alloc (.cells #[.int .i64 0] 3)) w.heap.size = some (.cells #[.int .i64 0] 3) := objAt_alloc_at _ _ _ rfl;have HG : Hid (Below w.heap.size w (w.alloc (.cells #[.int .i64 0] 3))) := Grew.alloc (Grew.refl _) _;clear hS hl hq hi hj hk hR;rw [HP.out]
 by_cases h8 : 8 <= l
 ·have h8' : (8 : Int) <= (l : Int) := by omega
  by_cases h50 : 50 <= l
  ·have h50' : (50 : Int) <= (l : Int) := by omega
   have hR := HR.out;rw [if_pos h8, if_pos h50] at hR;obtain ⟨g1, g2, g3, g4, g5, g6⟩ := HQ.out h50;obtain ⟨M1, hM1⟩ : ∃ M, M = Go.Sort.medianAdjacent Go.Sort.ltInt d i 0 := ⟨_, rfl⟩
   have m1 := zqa0 (d := d) (k := 0) (show i - 1 < d.size by omega) (show i < d.size by omega) g1;replace m1 : M1.1 < d.size /\ M1.2 <= 3 := by rw [hM1]; exact m1
   obtain ⟨M2, hM2⟩ : ∃ M, M = Go.Sort.medianAdjacent Go.Sort.ltInt d j M1.2 := ⟨_, rfl⟩
   have m2 := zqa0 (d := d) (k := M1.2) (show j - 1 < d.size by omega) (show j < d.size by omega) g3;replace m2 : M2.1 < d.size /\ M2.2 <= M1.2 + 3 := by rw [hM2]; exact m2
   obtain ⟨M3, hM3⟩ : ∃ M, M = Go.Sort.medianAdjacent Go.Sort.ltInt d k M2.2 := ⟨_, rfl⟩
   have m3 := zqa0 (d := d) (k := M2.2) (show k - 1 < d.size by omega) (show k < d.size by omega) g5;replace m3 : M3.1 < d.size /\ M3.2 <= M2.2 + 3 := by rw [hM3]; exact m3
   replace hR : R = Go.Sort.median Go.Sort.ltInt d M1.1 M2.1 M3.1 M3.2 := by rw [hR, hM3, hM2, hM1]
   have c1 := fun (W : World) (s : Nat) (hS : SrtAt W g d) (hs : SwAt W s 0) => zqi g s c i 0 d W hS hs g1 g2 (by omega) hn;have c2 := fun (W : World) (s : Nat) (hS : SrtAt W g d) (hs : SwAt W s M1.2) => zqi g s c j M1.2 d W hS hs g3 g4 (by omega) hn;have c3 := fun (W : World) (s : Nat) (hS : SrtAt W g d) (hs : SwAt W s M2.2) => zqi g s c k M2.2 d W hS hs g5 g6 (by omega) hn;have c4 := fun (W : World) (s : Nat) (hS : SrtAt W g d) (hs : SwAt W s M3.2) => zqo g s c M1.1 M2.1 M3.1 M3.2 d W hS hs m1.1 m2.1 m3.1 (by omega) hn;rw [<- hM1] at c1;rw [<- hM2] at c2;rw [<- hM3] at c3;rw [<- hR] at c4;clear hR hM1 hM2 hM3 m1 m2 m3 g1 g2 g3 g4 g5 g6 fs
   go_enter Tryz.func43, Tryz.ntmps43
   go_wp2_with fail;refine (c1 _ _ HS.out HW.out).mono ?_
   rintro r w4 ⟨rfl, hs1, hk1⟩;replace HG := hidS (hk1.below HG.out (Nat.le_refl _) (Nat.le_refl _));replace HS := hidS (HS.out.kept hk1 hgs hgs);replace HW := hidS hs1;clear hs1 hk1 c1;have HZ : Hid (w.heap.size <= w.heap.size) := Nat.le_refl _;obtain ⟨sz, hsz⟩ : ∃ s, s = w.heap.size := ⟨_, rfl⟩
   rw [<- hsz] at HW hgs;replace HZ : Hid (w.heap.size <= sz) := by rw [hsz]; exact HZ
   rw [<- hsz];replace HG : Hid (Below w.heap.size w w4) := HG;clear hsz;go_wp2_with fail;refine (c2 _ _ HS.out HW.out).mono ?_
   rintro r w5 ⟨rfl, hs1, hk1⟩;replace HG := hidS (hk1.below HG.out HZ.out HZ.out);replace HS := hidS (HS.out.kept hk1 hgs hgs);replace HW := hidS hs1;clear hs1 hk1 c2;go_wp2_with fail;refine (c3 _ _ HS.out HW.out).mono ?_
   rintro r w6 ⟨rfl, hs1, hk1⟩;replace HG := hidS (hk1.below HG.out HZ.out HZ.out);replace HS := hidS (HS.out.kept hk1 hgs hgs);replace HW := hidS hs1;clear hs1 hk1 c3;go_wp2_with fail;refine (c4 _ _ HS.out HW.out).mono ?_
   rintro r w7 ⟨rfl, hs1, hk1⟩;have HF : Hid (SwAt w7 sz R.2 /\ Below w.heap.size w w7) := ⟨hs1, hk1.below HG.out HZ.out HZ.out⟩
   clear hs1 hk1 c4 HS HW HG hgs;obtain ⟨ad, hR1⟩ : ∃ x, x = R.1 := ⟨_, rfl⟩
   rcases (by omega : R.2 = 0 \/ R.2 = 12 \/ (R.2 ≠ 0 /\ R.2 ≠ 12)) with h0 | h0 | ⟨h0, h1⟩
   ·have fs : objAt w7 sz = some (.cells #[.int .i64 0] 3) := by have := HF.out.1; unfold SwAt at this; rw [h0] at this; exact this
    have lfs := lt_of_objAt fs;go_wp2;go_ret2;refine ⟨?_, HF.out.2⟩
    first | rfl | (rw [if_pos h0]; rfl) | simp [h0, zqn]
   ·have fs : objAt w7 sz = some (.cells #[.int .i64 12] 3) := by have := HF.out.1; unfold SwAt at this; rw [h0] at this; exact this
    have lfs := lt_of_objAt fs;go_wp2;go_ret2;refine ⟨?_, HF.out.2⟩
    first | rfl | (rw [if_neg (by omega), if_pos h0]; rfl) | simp [h0, zqn]
   ·obtain ⟨z, hz⟩ : ∃ z : Int, z = (R.2 : Int) := ⟨_, rfl⟩
    have fs : objAt w7 sz = some (.cells #[.int .i64 z] 3) := by have := HF.out.1; unfold SwAt at this; rw [hz]; exact this
    have lfs := lt_of_objAt fs;have hz0 : ¬ (z = 0) := by omega
    have hz1 : ¬ (z = 12) := by omega
    clear hz;go_wp2;go_ret2;refine ⟨?_, HF.out.2⟩
    first | rfl | (rw [if_neg h0, if_neg h1]; rfl) | simp [h0, h1, zqn]
  ·have h50' : ¬ ((50 : Int) <= (l : Int)) := by omega
   have hR := HR.out;rw [if_pos h8, if_neg h50] at hR;have HRM := hidS hR;have cM := fun (W : World) (s : Nat) (hS : SrtAt W g d) (hs : SwAt W s 0) => zqo g s c i j k 0 d W hS hs bi bj bk (by omega) hn;rw [<- hR] at cM;clear hR
   go_enter Tryz.func43, Tryz.ntmps43
   go_wp2_with fail;refine (cM _ _ HS.out HW.out).mono ?_
   rintro r w4 ⟨rfl, hs1, hk1⟩;have HF : Hid (SwAt w4 w.heap.size R.2 /\ Below w.heap.size w w4) := ⟨hs1, hk1.below HG.out (Nat.le_refl _) (Nat.le_refl _)⟩
   clear hs1 hk1 cM HS HW HG fs hgs;obtain ⟨sz, hsz⟩ : ∃ s, s = w.heap.size := ⟨_, rfl⟩
   replace HF : Hid (SwAt w4 sz R.2 /\ Below w.heap.size w w4) := by rw [hsz]; exact HF
   rw [<- hsz];clear hsz;obtain ⟨ad, hR1⟩ : ∃ x, x = R.1 := ⟨_, rfl⟩
   rcases (by omega : R.2 = 0 \/ R.2 = 12 \/ (R.2 ≠ 0 /\ R.2 ≠ 12)) with h0 | h0 | ⟨h0, h1⟩
   ·have fs : objAt w4 sz = some (.cells #[.int .i64 0] 3) := by have := HF.out.1; unfold SwAt at this; rw [h0] at this; exact this
    have lfs := lt_of_objAt fs;go_wp2;go_ret2;refine ⟨?_, HF.out.2⟩
    first | rfl | (rw [if_pos h0]; rfl) | simp [h0, zqn]
   ·have fs : objAt w4 sz = some (.cells #[.int .i64 12] 3) := by have := HF.out.1; unfold SwAt at this; rw [h0] at this; exact this
    have lfs := lt_of_objAt fs;go_wp2;go_ret2;refine ⟨?_, HF.out.2⟩
    first | rfl | (rw [if_neg (by omega), if_pos h0]; rfl) | simp [h0, zqn]
   ·obtain ⟨z, hz⟩ : ∃ z : Int, z = (R.2 : Int) := ⟨_, rfl⟩
    have fs : objAt w4 sz = some (.cells #[.int .i64 z] 3) := by have := HF.out.1; unfold SwAt at this; rw [hz]; exact this
    have lfs := lt_of_objAt fs;have hz0 : ¬ (z = 0) := by omega
    have hz1 : ¬ (z = 12) := by omega
    clear hz;go_wp2;go_ret2;refine ⟨?_, HF.out.2⟩
    first | rfl | (rw [if_neg h0, if_neg h1]; rfl) | simp [h0, h1, zqn]
 ·have h8' : ¬ ((8 : Int) <= (l : Int)) := by omega
  have hR := HR.out;rw [if_neg h8] at hR;have hR2 : R.2 = 0 := by rw [hR]
  have hR1 : R.1 = j := by rw [hR]
  have lfs := lt_of_objAt fs;rw [if_pos hR2, hR1];clear hR hR1 hR2
  go_enter Tryz.func43, Tryz.ntmps43
  go_wp2;go_ret2;exact ⟨rfl, HG.out⟩
theorem zqe (d : Array Int) (i j : Nat) : (Go.Sort.swp d i j).size = d.size := size_swp' d i j
theorem zqd {cur : Array Value} {a p : Nat} {x : Int} (hs : a < cur.size) (h : cur[p]? = some (.int .u32 x)) : (cur.setIfInBounds a (Value.int .u32 x))[p]? = some (.int .u32 x) := by
 rw [Array.getElem?_setIfInBounds]
 split
 ·first | rfl | rw [if_pos hs]
 ·exact h
theorem zqan (g c a b p : Nat) (d : Array Int) (w : World) (hS : SrtAt w g d) (hab : a < b) (hb : b <= d.size) (hpa : a <= p) (hpb : p < b) (hn : d.size <= 1000000) :
  Calls Tryz.prog 47 #[.slice (some ⟨g, 0, none⟩) d.size c, .int .i64 a, .int .i64 b, .int .i64 p] w fun r w' => r = .returned (.int .i64 (((Go.Sort.partitionEqual Go.Sort.ltInt d a b p).1 : Nat) : Int)) /\ SrtAt w' g (Go.Sort.partitionEqual Go.Sort.ltInt d a b p).2 /\ Kept g g w w' := by
 obtain ⟨cur, hg, hcc⟩ := hS;have HC := hidS hcc;have lg := lt_of_objAt hg;clear hcc;obtain ⟨x0, hx0⟩ : ∃ x, x = d[a]! := ⟨_, rfl⟩
 obtain ⟨x1, hx1⟩ : ∃ x, x = d[p]! := ⟨_, rfl⟩
 have l0 := HC.out.2 a (by omega);have l1 := HC.out.2 p (by omega);rw [<- hx0] at l0;rw [<- hx1] at l1;have l9 := zqd (a := a) (by have := HC.out.1; omega) l1;have HS5 := hidS (SrtAt.swap hg HC.out.1 HC.out.2 (i := a) (j := p) (by omega) (by omega));rw [<- hx0, <- hx1] at HS5;have b0 : (a : Int) < (d.size : Int) := by omega
 have b1 : (p : Int) < (d.size : Int) := by omega
 have z0 : (0 : Int) <= (a : Int) := by omega
 have z1 : (0 : Int) <= (p : Int) := by omega
 clear hx0 hx1
 go_enter Tryz.func47, Tryz.ntmps47
 go_wp2_with fail
 go_region
 have HD : Hid (Go.Sort.partitionEqual Go.Sort.ltInt d a b p = Go.Sort.partEqLoop Go.Sort.ltInt a (a + 1) (b - 1) (Go.Sort.swp d a p)) := rfl;have HS1 := hidS HS5.out.drew;have HK1 : Hid (Kept g g w (w.setRow g ((cur.setIfInBounds a (.int .u32 x1)).setIfInBounds p (.int .u32 x0))).drew) := (Kept.row _ (.inl rfl)).drew;have hd1 := zqe d a p;generalize (w.setRow g ((cur.setIfInBounds a (.int .u32 x1)).setIfInBounds p (.int .u32 x0))).drew = w1 at *;generalize Go.Sort.swp d a p = d1 at *;clear HS5 l0 l1 l9 HC hg lg;go_wp2_with fail
 go_loopw [9, 10] (fun vi vj wr => ∃ (i j : Nat) (dk : Array Int), vi = .int .i64 (i : Int) /\ vj = .int .i64 (j : Int) /\ a < i /\ i <= j + 1 /\ j < b /\ dk.size = d.size /\ SrtAt wr g dk /\ Kept g g w wr /\ Hid (Go.Sort.partEqLoop Go.Sort.ltInt a i j dk = Go.Sort.partEqLoop Go.Sort.ltInt a (a + 1) (b - 1) d1)) (fun vi vj _ => (intOf vj).toNat + 1 - (intOf vi).toNat)
 case atStart => exact ⟨a + 1, b - 1, d1, by go_num, by go_num, by omega, by omega, by omega, hd1, HS1.out, HK1.out, rfl⟩
 case round =>
  clear HS1 HK1;obtain ⟨i, j, dk, rfl, rfl, hai, hij, hjb, hsk, ⟨cur, hg, hcc⟩, hK, HO⟩ := hrel;have HC := hidS hcc;have HK := hidS hK;have lg := lt_of_objAt hg;clear hcc hK;obtain ⟨i2, hi2⟩ : ∃ x, x = Go.Sort.scanUp (fun x => !Go.Sort.ltInt dk[a]! x) dk j i := ⟨_, rfl⟩
  obtain ⟨j2, hj2⟩ : ∃ x, x = Go.Sort.scanDown (fun x => Go.Sort.ltInt dk[a]! x) dk i2 j := ⟨_, rfl⟩
  have HU := hidS (Go.Sort.scanUp_spec (fun x => !Go.Sort.ltInt dk[a]! x) dk j _ i rfl);have HV := hidS (Go.Sort.scanDown_spec (fun x => Go.Sort.ltInt dk[a]! x) dk i2 j);rw [<- hi2] at HU;rw [<- hj2] at HV;have u1 := HU.out.1;have u2 := HU.out.2.1 (by omega);have v1 := HV.out.1;have v2 := HV.out.2.1 (by omega);have HE := hidS (Go.Sort.partEqLoop_eq Go.Sort.ltInt a i j dk);rw [<- hi2, <- hj2] at HE;have hX : i2 <= j2 -> i2 < j2 := fun h => by
   rcases Nat.lt_or_ge i2 j2 with h' | h'
   ·exact h'
   ·have e : i2 = j2 := by omega
    have f1 : (!Go.Sort.ltInt dk[a]! dk[i2]!) = false := HU.out.2.2.2 (by omega);have f2 : Go.Sort.ltInt dk[a]! dk[j2]! = false := HV.out.2.2.2 (by omega) (by omega);rw [<- e] at f2;rw [f2] at f1
    cases f1
  have HXX := hidS hX;clear hi2 hj2 hX;obtain ⟨xa, hxa⟩ : ∃ x, x = dk[a]! := ⟨_, rfl⟩
  have la := HC.out.2 a (by omega);rw [<- hxa] at la HU HV;have ha3 : (a : Int) < (d.size : Int) := by omega
  have ha4 : (0 : Int) <= (a : Int) := by omega
  clear hxa
  rcases (by omega : i2 <= j2 \/ (i2 <= j /\ j2 < i2) \/ j < i2) with hw | hw | hw
  ·go_wp2_with fail
   go_loopw [9] (fun v wr => ∃ t : Nat, v = .int .i64 (t : Int) /\ i <= t /\ t <= i2 /\ objAt wr g = some (.cells cur 27) /\ Kept g g w wr) (fun v _ => i2 - (intOf v).toNat)
   case atStart => exact ⟨i, by go_num, by omega, by omega, hg, HK.out⟩
   case round =>
    clear hg HK lg;obtain ⟨t, rfl, ht1, ht2, hg, hK⟩ := hrel;have HK := hidS hK;have lg := lt_of_objAt hg;clear hK
    by_cases htt : t < i2
    ·obtain ⟨xt, hxt⟩ : ∃ x, x = dk[t]! := ⟨_, rfl⟩
     have lt' := HC.out.2 t (by omega);rw [<- hxt] at lt';have hp : ¬ (xa < xt) := by
      have := HU.out.2.2.1 t (by omega) (by omega);rw [<- hxt] at this
      simpa [Go.Sort.ltInt] using this
     have ht3 : (t : Int) < (d.size : Int) := by omega
     have ht4 : (0 : Int) <= (t : Int) := by omega
     have ht5 : (t : Int) <= (j : Int) := by omega
     clear hxt;have hp2 := hp;have cL : ∀ W : World, Calls Tryz.prog 46 #[.int .u32 xa, .int .u32 xt] W (Rt W (.bool false)) := fun W => by have := lessC (xa) (xt) W; simpa only [hp, decide_false] using this
     clear hp2;go_wp2_with fail
     ((first | (with_reducible refine wp_region_on zqa zqa ?_) | refine wp_region_more zqa zqa ?_); (refine zAa ?_); refine wpQuiet_nil ?_; rintro _ ⟨mq, rfl⟩)
     replace hg : objAt (more wr mq) g = some (.cells cur 27) := keep_below (below_more wr mq) hg;replace HK := hidS (HK.out.trans (Kept.of (below_more wr mq)) (.inl rfl));clear lg;generalize more wr mq = w4 at *;have lg := lt_of_objAt hg;clear cL;go_wp2
     go_roundw
     case rel => first | exact ⟨t + 1, by go_num, by omega, by omega, hg, HK.out⟩ | ((repeat' apply Exists.intro) <;> first | exact ⟨⟨t + 1, by go_num, by omega, by omega, hg, HK.out⟩, rfl⟩ | exact undef)
     case measure => (simp [intOf] <;> omega)
    ·obtain rfl : i2 = t := by omega
     obtain ⟨xt, hxt⟩ : ∃ x, x = dk[i2]! := ⟨_, rfl⟩
     have lt' := HC.out.2 i2 (by omega);rw [<- hxt] at lt';have hp : xa < xt := by
      have := HU.out.2.2.2 (by omega);rw [<- hxt] at this
      simpa [Go.Sort.ltInt] using this
     have ht3 : (i2 : Int) < (d.size : Int) := by omega
     have ht4 : (0 : Int) <= (i2 : Int) := by omega
     have ht5 : (i2 : Int) <= (j : Int) := by omega
     clear hxt;have cL : ∀ W : World, Calls Tryz.prog 46 #[.int .u32 xa, .int .u32 xt] W (Rt W (.bool true)) := fun W => by have := lessC (xa) (xt) W; simpa only [hp, decide_true] using this
     go_wp2_with fail
     ((first | (with_reducible refine wp_region_on zqa zqa ?_) | refine wp_region_more zqa zqa ?_); (refine zAa ?_); refine wpQuiet_nil ?_; rintro _ ⟨mq, rfl⟩)
     replace hg : objAt (more wr mq) g = some (.cells cur 27) := keep_below (below_more wr mq) hg;replace HK := hidS (HK.out.trans (Kept.of (below_more wr mq)) (.inl rfl));clear lg;generalize more wr mq = w5 at *;have lg := lt_of_objAt hg;clear cL;clear lt' hp ht3 ht4 ht5;go_wp2_with fail
     go_loopw [10] (fun v wr => ∃ t : Nat, v = .int .i64 (t : Int) /\ j2 <= t /\ t <= j /\ objAt wr g = some (.cells cur 27) /\ Kept g g w wr) (fun v _ => (intOf v).toNat - j2)
     case atStart => exact ⟨j, by go_num, by omega, by omega, hg, HK.out⟩
     case round =>
      clear hg HK lg;obtain ⟨t, rfl, ht1, ht2, hg, hK⟩ := hrel;have HK := hidS hK;have lg := lt_of_objAt hg;clear hK
      by_cases htt : j2 < t
      ·obtain ⟨xt, hxt⟩ : ∃ x, x = dk[t]! := ⟨_, rfl⟩
       have lt' := HC.out.2 t (by omega);rw [<- hxt] at lt';have hp : xa < xt := by
        have := HV.out.2.2.1 t (by omega) (by omega);rw [<- hxt] at this
        simpa [Go.Sort.ltInt] using this
       have ht3 : (t : Int) < (d.size : Int) := by omega
       have ht4 : (0 : Int) <= (t : Int) := by omega
       have ht5 : (i2 : Int) <= (t : Int) := by omega
       clear hxt;have hp2 := hp;have cL : ∀ W : World, Calls Tryz.prog 46 #[.int .u32 xa, .int .u32 xt] W (Rt W (.bool true)) := fun W => by have := lessC (xa) (xt) W; simpa only [hp, decide_true] using this
       clear hp2;go_wp2_with fail
       ((first | (with_reducible refine wp_region_on zqa zqa ?_) | refine wp_region_more zqa zqa ?_); (refine zAa ?_); refine wpQuiet_nil ?_; rintro _ ⟨mq, rfl⟩)
       replace hg : objAt (more wr mq) g = some (.cells cur 27) := keep_below (below_more wr mq) hg;replace HK := hidS (HK.out.trans (Kept.of (below_more wr mq)) (.inl rfl));clear lg;generalize more wr mq = w4 at *;have lg := lt_of_objAt hg;clear cL;go_wp2
       go_roundw
       case rel => first | exact ⟨t - 1, by go_num, by omega, by omega, hg, HK.out⟩ | ((repeat' apply Exists.intro) <;> first | exact ⟨⟨t - 1, by go_num, by omega, by omega, hg, HK.out⟩, rfl⟩ | exact undef)
       case measure => (simp [intOf] <;> omega)
      ·obtain rfl : j2 = t := by omega
       obtain ⟨xt, hxt⟩ : ∃ x, x = dk[j2]! := ⟨_, rfl⟩
       have lt' := HC.out.2 j2 (by omega);rw [<- hxt] at lt';have hp : ¬ (xa < xt) := by
        have := HV.out.2.2.2 (by omega) (by omega);rw [<- hxt] at this
        simpa [Go.Sort.ltInt] using this
       have ht3 : (j2 : Int) < (d.size : Int) := by omega
       have ht4 : (0 : Int) <= (j2 : Int) := by omega
       have ht5 : (i2 : Int) <= (j2 : Int) := by omega
       clear hxt;have cL : ∀ W : World, Calls Tryz.prog 46 #[.int .u32 xa, .int .u32 xt] W (Rt W (.bool false)) := fun W => by have := lessC (xa) (xt) W; simpa only [hp, decide_false] using this
       go_wp2_with fail
       ((first | (with_reducible refine wp_region_on zqa zqa ?_) | refine wp_region_more zqa zqa ?_); (refine zAa ?_); refine wpQuiet_nil ?_; rintro _ ⟨mq, rfl⟩)
       replace hg : objAt (more wr mq) g = some (.cells cur 27) := keep_below (below_more wr mq) hg;replace HK := hidS (HK.out.trans (Kept.of (below_more wr mq)) (.inl rfl));clear lg;generalize more wr mq = w6 at *;have lg := lt_of_objAt hg;clear cL;clear lt' hp ht3 ht4 ht5;have hgt : ¬ ((j2 : Int) < (i2 : Int)) := by omega
       have hne := HXX.out hw;obtain ⟨x0, hx0⟩ : ∃ x, x = dk[i2]! := ⟨_, rfl⟩
       obtain ⟨x1, hx1⟩ : ∃ x, x = dk[j2]! := ⟨_, rfl⟩
       have l0 := HC.out.2 i2 (by omega);have l1 := HC.out.2 j2 (by omega);rw [<- hx0] at l0;rw [<- hx1] at l1;have l9 := zqd (a := i2) (by have := HC.out.1; omega) l1;have HS5 := hidS (SrtAt.swap hg HC.out.1 HC.out.2 (i := i2) (j := j2) (by omega) (by omega));rw [<- hx0, <- hx1] at HS5;have b0 : (i2 : Int) < (d.size : Int) := by omega
       have b1 : (j2 : Int) < (d.size : Int) := by omega
       have z0 : (0 : Int) <= (i2 : Int) := by omega
       have z1 : (0 : Int) <= (j2 : Int) := by omega
       clear hx0 hx1;go_wp2_with fail
       go_region
       go_wp2
       go_roundw
       case rel => first | exact ⟨i2 + 1, j2 - 1, Go.Sort.swp dk i2 j2, by go_num, by go_num, by omega, by omega, by omega, by rw [zqe]; exact hsk, HS5.out.drew, (HK.out.trans (Kept.row _ (.inl rfl)) (.inl rfl)).drew, by rw [<- HO.out, HE.out, if_neg (by omega)]; rfl⟩ | ((repeat' apply Exists.intro) <;> first | exact ⟨⟨i2 + 1, j2 - 1, Go.Sort.swp dk i2 j2, by go_num, by go_num, by omega, by omega, by omega, by rw [zqe]; exact hsk, HS5.out.drew, (HK.out.trans (Kept.row _ (.inl rfl)) (.inl rfl)).drew, by rw [<- HO.out, HE.out, if_neg (by omega)]; rfl⟩, rfl⟩ | exact undef)
       case measure => (simp [intOf] <;> omega)
  ·go_wp2_with fail
   go_loopw [9] (fun v wr => ∃ t : Nat, v = .int .i64 (t : Int) /\ i <= t /\ t <= i2 /\ objAt wr g = some (.cells cur 27) /\ Kept g g w wr) (fun v _ => i2 - (intOf v).toNat)
   case atStart => exact ⟨i, by go_num, by omega, by omega, hg, HK.out⟩
   case round =>
    clear hg HK lg;obtain ⟨t, rfl, ht1, ht2, hg, hK⟩ := hrel;have HK := hidS hK;have lg := lt_of_objAt hg;clear hK
    by_cases htt : t < i2
    ·obtain ⟨xt, hxt⟩ : ∃ x, x = dk[t]! := ⟨_, rfl⟩
     have lt' := HC.out.2 t (by omega);rw [<- hxt] at lt';have hp : ¬ (xa < xt) := by
      have := HU.out.2.2.1 t (by omega) (by omega);rw [<- hxt] at this
      simpa [Go.Sort.ltInt] using this
     have ht3 : (t : Int) < (d.size : Int) := by omega
     have ht4 : (0 : Int) <= (t : Int) := by omega
     have ht5 : (t : Int) <= (j : Int) := by omega
     clear hxt;have hp2 := hp;have cL : ∀ W : World, Calls Tryz.prog 46 #[.int .u32 xa, .int .u32 xt] W (Rt W (.bool false)) := fun W => by have := lessC (xa) (xt) W; simpa only [hp, decide_false] using this
     clear hp2;go_wp2_with fail
     ((first | (with_reducible refine wp_region_on zqa zqa ?_) | refine wp_region_more zqa zqa ?_); (refine zAa ?_); refine wpQuiet_nil ?_; rintro _ ⟨mq, rfl⟩)
     replace hg : objAt (more wr mq) g = some (.cells cur 27) := keep_below (below_more wr mq) hg;replace HK := hidS (HK.out.trans (Kept.of (below_more wr mq)) (.inl rfl));clear lg;generalize more wr mq = w4 at *;have lg := lt_of_objAt hg;clear cL;go_wp2
     go_roundw
     case rel => first | exact ⟨t + 1, by go_num, by omega, by omega, hg, HK.out⟩ | ((repeat' apply Exists.intro) <;> first | exact ⟨⟨t + 1, by go_num, by omega, by omega, hg, HK.out⟩, rfl⟩ | exact undef)
     case measure => (simp [intOf] <;> omega)
    ·obtain rfl : i2 = t := by omega
     obtain ⟨xt, hxt⟩ : ∃ x, x = dk[i2]! := ⟨_, rfl⟩
     have lt' := HC.out.2 i2 (by omega);rw [<- hxt] at lt';have hp : xa < xt := by
      have := HU.out.2.2.2 (by omega);rw [<- hxt] at this
      simpa [Go.Sort.ltInt] using this
     have ht3 : (i2 : Int) < (d.size : Int) := by omega
     have ht4 : (0 : Int) <= (i2 : Int) := by omega
     have ht5 : (i2 : Int) <= (j : Int) := by omega
     clear hxt;have cL : ∀ W : World, Calls Tryz.prog 46 #[.int .u32 xa, .int .u32 xt] W (Rt W (.bool true)) := fun W => by have := lessC (xa) (xt) W; simpa only [hp, decide_true] using this
     go_wp2_with fail
     ((first | (with_reducible refine wp_region_on zqa zqa ?_) | refine wp_region_more zqa zqa ?_); (refine zAa ?_); refine wpQuiet_nil ?_; rintro _ ⟨mq, rfl⟩)
     replace hg : objAt (more wr mq) g = some (.cells cur 27) := keep_below (below_more wr mq) hg;replace HK := hidS (HK.out.trans (Kept.of (below_more wr mq)) (.inl rfl));clear lg;generalize more wr mq = w5 at *;have lg := lt_of_objAt hg;clear cL;clear lt' hp ht3 ht4 ht5;go_wp2_with fail
     go_loopw [10] (fun v wr => ∃ t : Nat, v = .int .i64 (t : Int) /\ j2 <= t /\ t <= j /\ objAt wr g = some (.cells cur 27) /\ Kept g g w wr) (fun v _ => (intOf v).toNat - j2)
     case atStart => exact ⟨j, by go_num, by omega, by omega, hg, HK.out⟩
     case round =>
      clear hg HK lg;obtain ⟨t, rfl, ht1, ht2, hg, hK⟩ := hrel;have HK := hidS hK;have lg := lt_of_objAt hg;clear hK
      by_cases htt : j2 < t
      ·obtain ⟨xt, hxt⟩ : ∃ x, x = dk[t]! := ⟨_, rfl⟩
       have lt' := HC.out.2 t (by omega);rw [<- hxt] at lt';have hp : xa < xt := by
        have := HV.out.2.2.1 t (by omega) (by omega);rw [<- hxt] at this
        simpa [Go.Sort.ltInt] using this
       have ht3 : (t : Int) < (d.size : Int) := by omega
       have ht4 : (0 : Int) <= (t : Int) := by omega
       have ht5 : (i2 : Int) <= (t : Int) := by omega
       clear hxt;have hp2 := hp;have cL : ∀ W : World, Calls Tryz.prog 46 #[.int .u32 xa, .int .u32 xt] W (Rt W (.bool true)) := fun W => by have := lessC (xa) (xt) W; simpa only [hp, decide_true] using this
       clear hp2;go_wp2_with fail
       ((first | (with_reducible refine wp_region_on zqa zqa ?_) | refine wp_region_more zqa zqa ?_); (refine zAa ?_); refine wpQuiet_nil ?_; rintro _ ⟨mq, rfl⟩)
       replace hg : objAt (more wr mq) g = some (.cells cur 27) := keep_below (below_more wr mq) hg;replace HK := hidS (HK.out.trans (Kept.of (below_more wr mq)) (.inl rfl));clear lg;generalize more wr mq = w4 at *;have lg := lt_of_objAt hg;clear cL;go_wp2
       go_roundw
       case rel => first | exact ⟨t - 1, by go_num, by omega, by omega, hg, HK.out⟩ | ((repeat' apply Exists.intro) <;> first | exact ⟨⟨t - 1, by go_num, by omega, by omega, hg, HK.out⟩, rfl⟩ | exact undef)
       case measure => (simp [intOf] <;> omega)
      ·obtain rfl : j2 = t := by omega
       have ht5 : ¬ ((i2 : Int) <= (j2 : Int)) := by omega
       have cL := fun W : World => lessC 0 0 W;go_wp2_with fail;clear ht5;have ht5 : ¬ ((i2 : Int) <= (j2 : Int)) := by omega
       ((first | (with_reducible refine wp_region_on zqa zqa ?_) | refine wp_region_more zqa zqa ?_); (refine zAa ?_); refine wpQuiet_nil ?_; rintro _ ⟨mq, rfl⟩)
       replace hg : objAt (more wr mq) g = some (.cells cur 27) := keep_below (below_more wr mq) hg;replace HK := hidS (HK.out.trans (Kept.of (below_more wr mq)) (.inl rfl));clear lg;generalize more wr mq = w6 at *;have lg := lt_of_objAt hg;clear cL;clear ht5;have hgt : (j2 : Int) < (i2 : Int) := by omega
       go_wp2;go_ret;rw [HD.out, <- HO.out, HE.out, if_pos (by omega)];exact ⟨rfl, ⟨cur, hg, HC.out⟩, HK.out⟩
  ·go_wp2_with fail
   go_loopw [9] (fun v wr => ∃ t : Nat, v = .int .i64 (t : Int) /\ i <= t /\ t <= i2 /\ objAt wr g = some (.cells cur 27) /\ Kept g g w wr) (fun v _ => i2 - (intOf v).toNat)
   case atStart => exact ⟨i, by go_num, by omega, by omega, hg, HK.out⟩
   case round =>
    clear hg HK lg;obtain ⟨t, rfl, ht1, ht2, hg, hK⟩ := hrel;have HK := hidS hK;have lg := lt_of_objAt hg;clear hK
    by_cases htt : t < i2
    ·obtain ⟨xt, hxt⟩ : ∃ x, x = dk[t]! := ⟨_, rfl⟩
     have lt' := HC.out.2 t (by omega);rw [<- hxt] at lt';have hp : ¬ (xa < xt) := by
      have := HU.out.2.2.1 t (by omega) (by omega);rw [<- hxt] at this
      simpa [Go.Sort.ltInt] using this
     have ht3 : (t : Int) < (d.size : Int) := by omega
     have ht4 : (0 : Int) <= (t : Int) := by omega
     have ht5 : (t : Int) <= (j : Int) := by omega
     clear hxt;have hp2 := hp;have cL : ∀ W : World, Calls Tryz.prog 46 #[.int .u32 xa, .int .u32 xt] W (Rt W (.bool false)) := fun W => by have := lessC (xa) (xt) W; simpa only [hp, decide_false] using this
     clear hp2;go_wp2_with fail
     ((first | (with_reducible refine wp_region_on zqa zqa ?_) | refine wp_region_more zqa zqa ?_); (refine zAa ?_); refine wpQuiet_nil ?_; rintro _ ⟨mq, rfl⟩)
     replace hg : objAt (more wr mq) g = some (.cells cur 27) := keep_below (below_more wr mq) hg;replace HK := hidS (HK.out.trans (Kept.of (below_more wr mq)) (.inl rfl));clear lg;generalize more wr mq = w4 at *;have lg := lt_of_objAt hg;clear cL;go_wp2
     go_roundw
     case rel => first | exact ⟨t + 1, by go_num, by omega, by omega, hg, HK.out⟩ | ((repeat' apply Exists.intro) <;> first | exact ⟨⟨t + 1, by go_num, by omega, by omega, hg, HK.out⟩, rfl⟩ | exact undef)
     case measure => (simp [intOf] <;> omega)
    ·obtain rfl : i2 = t := by omega
     have ht5 : ¬ ((i2 : Int) <= (j : Int)) := by omega
     have cL := fun W : World => lessC 0 0 W;go_wp2_with fail;clear ht5;have ht5 : ¬ ((i2 : Int) <= (j : Int)) := by omega
     ((first | (with_reducible refine wp_region_on zqa zqa ?_) | refine wp_region_more zqa zqa ?_); (refine zAa ?_); refine wpQuiet_nil ?_; rintro _ ⟨mq, rfl⟩)
     replace hg : objAt (more wr mq) g = some (.cells cur 27) := keep_below (below_more wr mq) hg;replace HK := hidS (HK.out.trans (Kept.of (below_more wr mq)) (.inl rfl));clear lg;generalize more wr mq = w5 at *;have lg := lt_of_objAt hg;clear cL;clear ht5;go_wp2_with fail
     go_loopw [10] (fun v wr => ∃ t : Nat, v = .int .i64 (t : Int) /\ j2 <= t /\ t <= j /\ objAt wr g = some (.cells cur 27) /\ Kept g g w wr) (fun v _ => (intOf v).toNat - j2)
     case atStart => exact ⟨j, by go_num, by omega, by omega, hg, HK.out⟩
     case round =>
      clear hg HK lg;obtain ⟨t, rfl, ht1, ht2, hg, hK⟩ := hrel;have HK := hidS hK;have lg := lt_of_objAt hg;clear hK
      by_cases htt : j2 < t
      ·obtain ⟨xt, hxt⟩ : ∃ x, x = dk[t]! := ⟨_, rfl⟩
       have lt' := HC.out.2 t (by omega);rw [<- hxt] at lt';have hp : xa < xt := by
        have := HV.out.2.2.1 t (by omega) (by omega);rw [<- hxt] at this
        simpa [Go.Sort.ltInt] using this
       have ht3 : (t : Int) < (d.size : Int) := by omega
       have ht4 : (0 : Int) <= (t : Int) := by omega
       have ht5 : (i2 : Int) <= (t : Int) := by omega
       clear hxt;have hp2 := hp;have cL : ∀ W : World, Calls Tryz.prog 46 #[.int .u32 xa, .int .u32 xt] W (Rt W (.bool true)) := fun W => by have := lessC (xa) (xt) W; simpa only [hp, decide_true] using this
       clear hp2;go_wp2_with fail
       ((first | (with_reducible refine wp_region_on zqa zqa ?_) | refine wp_region_more zqa zqa ?_); (refine zAa ?_); refine wpQuiet_nil ?_; rintro _ ⟨mq, rfl⟩)
       replace hg : objAt (more wr mq) g = some (.cells cur 27) := keep_below (below_more wr mq) hg;replace HK := hidS (HK.out.trans (Kept.of (below_more wr mq)) (.inl rfl));clear lg;generalize more wr mq = w4 at *;have lg := lt_of_objAt hg;clear cL;go_wp2
       go_roundw
       case rel => first | exact ⟨t - 1, by go_num, by omega, by omega, hg, HK.out⟩ | ((repeat' apply Exists.intro) <;> first | exact ⟨⟨t - 1, by go_num, by omega, by omega, hg, HK.out⟩, rfl⟩ | exact undef)
       case measure => (simp [intOf] <;> omega)
      ·obtain rfl : j2 = t := by omega
       have ht5 : ¬ ((i2 : Int) <= (j2 : Int)) := by omega
       have cL := fun W : World => lessC 0 0 W;go_wp2_with fail;clear ht5;have ht5 : ¬ ((i2 : Int) <= (j2 : Int)) := by omega
       ((first | (with_reducible refine wp_region_on zqa zqa ?_) | refine wp_region_more zqa zqa ?_); (refine zAa ?_); refine wpQuiet_nil ?_; rintro _ ⟨mq, rfl⟩)
       replace hg : objAt (more wr mq) g = some (.cells cur 27) := keep_below (below_more wr mq) hg;replace HK := hidS (HK.out.trans (Kept.of (below_more wr mq)) (.inl rfl));clear lg;generalize more wr mq = w6 at *;have lg := lt_of_objAt hg;clear cL;clear ht5;have hgt : (j2 : Int) < (i2 : Int) := by omega
       go_wp2;go_ret;rw [HD.out, <- HO.out, HE.out, if_pos (by omega)];exact ⟨rfl, ⟨cur, hg, HC.out⟩, HK.out⟩
end Go.Proofs.YtihoodeaaamlfaaGreatDoor
