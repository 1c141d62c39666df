/- So -/
import Derived.Test.YtdoolhbmekahdaaGreatDoorQ12
import Derived.Test.YtdoolhbmekahdaaGreatDoorC16
import Derived.Test.YtdoolhbmekahdaaGreatDoorR12
import Derived.Test.YtdoolhbmekahdaaGreatDoorSm
import Derived.Deep.AppendSrc
import Derived.Deep.DeepAppendWide
import Derived.Test.YtdoolhbmekahdaaGreatDoorFrame
import Derived.Test.YtdoolhbmekahdaaGreatDoorRel
import Derived.Sort.AssemblyPlain
import Derived.Laws.Bits64b
import Derived.Lib.BitFns
set_option maxRecDepth 100000
set_option maxHeartbeats 4000000
namespace Go.Proofs.YtdoolhbmekahdaaGreatDoor
open Go.RowKit
set_option linter.unusedVariables false
set_option linter.unusedSimpArgs false
structure Kept (b g : Nat) (w w' : World) : Prop where
 os : w'.os = w.os
 tape : w'.tape = w.tape
 output : w'.output = w.output
 size : w.heap.size ≤ w'.heap.size
 block : ∀ k, k < w.heap.size → k ≠ b → k ≠ g → w'.heap[k]? = w.heap[k]?
theorem Kept.refl (b g : Nat) (w : World) : Kept b g w w := ⟨rfl, rfl, rfl, Nat.le_refl _, fun _ _ _ _ => rfl⟩
theorem Kept.of {b g : Nat} {w w' : World} (h : Below w.heap.size w w') : Kept b g w w' := ⟨h.os, h.tape, h.output, h.size, fun k hk _ _ => h.block k hk⟩
theorem Kept.trans {b g g' : Nat} {w w1 w2 : World} (h : Kept b g w w1) (k : Kept b g' w1 w2) (hg : g' = g ∨ w.heap.size ≤ g') : Kept b g w w2 :=
 ⟨k.os.trans h.os, k.tape.trans h.tape, k.output.trans h.output, Nat.le_trans h.size k.size, fun i hi h1 h2 => (k.block i (Nat.lt_of_lt_of_le hi h.size) h1 (by
  rcases hg with rfl | hg
  ·exact h2
  ·omega)).trans (h.block i hi h1 h2)⟩
theorem Kept.row {b g k : Nat} {w : World} (c : Array Value) (hk : k = b ∨ k = g) : Kept b g w (w.setRow k c) :=
 ⟨rfl, rfl, rfl, by rw [size_setRow']; exact Nat.le_refl _, fun i _ h1 h2 => objAt_setRow_ne w k i c (by rcases hk with rfl | rfl <;> assumption)⟩
theorem Kept.below {b g : Nat} {w0 w w' : World} (h : Kept b g w w') (hb : Below w0.heap.size w0 w) (h1 : w0.heap.size ≤ b) (h2 : w0.heap.size ≤ g) : Below w0.heap.size w0 w' :=
 ⟨h.os.trans hb.os, h.tape.trans hb.tape, h.output.trans hb.output, Nat.le_trans hb.size h.size, fun k hk => (h.block k (Nat.lt_of_lt_of_le hk hb.size) (by omega) (by omega)).trans (hb.block k hk)⟩
def KIn (cs : Array Value) (o n : Nat) (K : Nat → Nat → Int) : Prop := ∀ j, j < n → ∀ i, i < 32 → cs[o + (j * 32 + i)]? = some (.int .u8 (K j i))
def Mine (e : TypeId) (w : World) (g : Nat) (oa : Option Addr) (n c : Nat) (K : Nat → Nat → Int) : Prop :=
 (n = 0 ∧ c = 0) ∨ ∃ o cs, oa = some ⟨g, o, none⟩ ∧ n ≤ c ∧ objAt w g = some (.cells cs e) ∧ o + c * 32 ≤ cs.size ∧ KIn cs o n K
theorem Mine.nil (e : TypeId) (w : World) (g : Nat) (oa : Option Addr) (K : Nat → Nat → Int) : Mine e w g oa 0 0 K := .inl ⟨rfl, rfl⟩
def clearNext (ats : Array TypeId) (ty : TypeId) (args : Array Value) : Sem Next := do pure (.value (← Builtin.clear_ ats ty args))
@[go_sem ↓ high] theorem clear_keys (ty : TypeId) (cs : Array Bool) (args : Array Value) : builtin .clear #[23] ty cs args = clearNext #[23] ty args := by unfold clearNext; rfl
attribute [irreducible] clearNext
def offK (oa : Option Addr) (c k : Nat) : Option Addr := if c = k then oa else oa.map (·.add (k * 32))
theorem Mine.rest {w w' : World} {g n c z o : Nat} {K : Nat → Nat → Int} {cs : Array Value} (hg : objAt w' g = some (.cells cs 27)) (hs : o + c * 32 ≤ cs.size) (hnc : n ≤ c) (hz : z ≤ n) (hK : KIn cs (o + z * 32) (n - z) K) : Mine 27 w' g (offK (some ⟨g, o, none⟩) c z) (n - z) (c - z) K := by
 by_cases e : c = z
 ·exact .inl ⟨by omega, by omega⟩
 ·unfold offK
  rw [if_neg e]
  refine .inr ⟨o + z * 32, cs, ?_, by omega, hg, ?_, hK⟩
  ·simp [add_lit0]
  ·have h1 : c * 32 = z * 32 + (c - z) * 32 := by omega
   omega
theorem K32At.rest {w : World} {oa : Option Addr} {n c z : Nat} {F : Nat → Nat → Int} (h : K32At w oa n F) (hz : z ≤ n) (hc : n ≤ c) : K32At w (offK oa c z) (n - z) (fun j => F (z + j)) := by
 by_cases e : n = z
 ·exact .inl (by omega)
 ·rcases h with h | ⟨ad, rfl, hl⟩
  ·exact .inl (by omega)
  ·unfold offK
   rw [if_neg (by omega)]
   refine .inr ⟨_, rfl, fun W hb j hj i hi => ?_⟩
   rw [Go.Deep.add_add, show z * 32 + (j * 32 + i) = (z + j) * 32 + i by omega]
   exact hl W hb (z + j) (by omega) i hi
theorem K32At.less {w : World} {oa : Option Addr} {n z : Nat} {F : Nat → Nat → Int} (h : K32At w oa n F) (hz : z ≤ n) : K32At w oa z F := by
 rcases h with h | ⟨ad, rfl, hl⟩
 ·exact .inl (by omega)
 ·exact .inr ⟨ad, rfl, fun W hb j hj => hl W hb j (by omega)⟩
end Go.Proofs.YtdoolhbmekahdaaGreatDoor
namespace Go.Proofs.YtdoolhbmekahdaaGreatDoor
open Go.RowKit
set_option linter.unusedVariables false
set_option linter.unusedSimpArgs false
theorem isNaN_u32 (x : Int) (w : World) : Calls Tryz.prog 375 #[.int .u32 x] w fun e w' => e = .returned (.bool false) ∧ w' = w := by
 go_enter Tryz.func375, Tryz.ntmps375
 go_wp2
 go_ret
 exact ⟨rfl, rfl⟩
theorem less_u32 (x y : Int) (w : World) : Calls Tryz.prog 354 #[.int .u32 x, .int .u32 y] w fun e w' => e = .returned (.bool (decide (x < y))) ∧ w' = w := by
 go_enter Tryz.func354, Tryz.ntmps354
 go_wp2_with fail
 refine (isNaN_u32 _ _).mono ?_
 rintro e _ ⟨rfl, rfl⟩
 go_wp2
 go_ret
 exact ⟨rfl, rfl⟩
theorem hidS {p : Prop} (h : p) : Hid p := h
def SrtAt (w : World) (g : Nat) (d : Array Int) : Prop := ∃ cur, objAt w g = some (.cells cur 71) ∧ d.size ≤ cur.size ∧ ∀ i, i < d.size → cur[i]? = some (.int .u32 d[i]!)
theorem SrtAt.lt {w : World} {g : Nat} {d : Array Int} (h : SrtAt w g d) : g < w.heap.size := by
 obtain ⟨_, h, _⟩ := h
 exact lt_of_objAt h
theorem SrtAt.below {w w' : World} {g : Nat} {d : Array Int} (h : SrtAt w g d) (hb : Below w.heap.size w w') : SrtAt w' g d := by
 obtain ⟨cur, h, h2⟩ := h
 exact ⟨cur, keep_below hb h, h2⟩
theorem SrtAt.drew {w : World} {g : Nat} {d : Array Int} (h : SrtAt w g d) : SrtAt w.drew g d := h
theorem Kept.drew {b g : Nat} {w w' : World} (h : Kept b g w w') : Kept b g w w'.drew := ⟨h.os, h.tape, h.output, h.size, h.block⟩
theorem SrtAt.swap {w : World} {g : Nat} {d : Array Int} {cur : Array Value} (hg : objAt w g = some (.cells cur 71)) (hs : d.size ≤ cur.size) (hc : ∀ i, i < d.size → cur[i]? = some (.int .u32 d[i]!)) {i j : Nat} (hi : i < d.size) (hj : j < d.size) :
  SrtAt (w.setRow g ((cur.setIfInBounds i (.int .u32 d[j]!)).setIfInBounds j (.int .u32 d[i]!))) g (Go.Sort.swp d i j) := by
 refine ⟨_, keep_row _ hg, by simp [Go.Sort.swp]; exact hs, fun k hk => ?_⟩
 have hk' : k < d.size := by simpa [Go.Sort.swp] using hk
 have e1 : (Go.Sort.swp d i j)[k]! = if j = k then d[i]! else if i = k then d[j]! else d[k]! := by
  rw [getElem!_def]
  simp only [Go.Sort.swp, Array.getElem?_setIfInBounds, Array.size_setIfInBounds]
  by_cases h1 : j = k
  ·subst h1; simp [hj]
  ·by_cases h2 : i = k
   ·subst h2; simp [h1, hi]
   ·simp [h1, h2, getElem!_def]
 rw [e1]
 simp only [Array.getElem?_setIfInBounds, Array.size_setIfInBounds]
 by_cases h1 : j = k
 ·subst h1; simp; omega
 ·by_cases h2 : i = k
  ·subst h2; simp [h1]; omega
  ·simp [h1, h2, hc k hk']
theorem lessC (x y : Int) (W : World) : Calls Tryz.prog 354 #[.int .u32 x, .int .u32 y] W fun e w' => e = .returned (.bool (decide (x < y))) ∧ Below W.heap.size W w' := (less_u32 x y W).mono fun e w' h => ⟨h.1, by rw [h.2]; exact Grew.refl _⟩
theorem ins_stop (a j : Nat) (d : Array Int) (h : a < j → Go.Sort.ltInt d[j]! d[j - 1]! = false) : Go.Sort.insInner Go.Sort.ltInt a j d = d := by
 cases j with
 | zero => rfl
 | succ j =>
  rw [Go.Sort.insInner, if_neg]
  rw [Bool.and_eq_true, decide_eq_true_eq]
  rintro ⟨h3, h4⟩
  have := h h3
  rw [Nat.add_sub_cancel] at this
  rw [this] at h4
  cases h4
theorem ins_go (a j : Nat) (d : Array Int) (h : a < j) (h2 : Go.Sort.ltInt d[j]! d[j - 1]! = true) : Go.Sort.insInner Go.Sort.ltInt a j d = Go.Sort.insInner Go.Sort.ltInt a (j - 1) (Go.Sort.swp d j (j - 1)) := by
 cases j with
 | zero => omega
 | succ j =>
  rw [Nat.add_sub_cancel] at h2 ⊢
  rw [Go.Sort.insInner, if_pos]
  rw [Bool.and_eq_true, decide_eq_true_eq]
  exact ⟨h, h2⟩
theorem ins_outer (a b i : Nat) (d : Array Int) (h : i < b) : Go.Sort.insOuter Go.Sort.ltInt a b i d = Go.Sort.insOuter Go.Sort.ltInt a b (i + 1) (Go.Sort.insInner Go.Sort.ltInt a i d) := by
 rw [Go.Sort.insOuter, if_pos h]
theorem size_swp' (d : Array Int) (i j : Nat) : (Go.Sort.swp d i j).size = d.size := by simp [Go.Sort.swp]
theorem insertion_u32 (g c a b : Nat) (d : Array Int) (w : World) (hS : SrtAt w g d) (hab : a ≤ b) (hb : b ≤ d.size) (hn : d.size ≤ 1000000) :
  Calls Tryz.prog 348 #[.slice (some ⟨g, 0, none⟩) d.size c, .int .i64 a, .int .i64 b] w fun e w' => e = .returned (.tuple #[]) ∧ SrtAt w' g (Go.Sort.insertionSort Go.Sort.ltInt d a b) ∧ Kept g g w w' := by
 go_enter Tryz.func348, Tryz.ntmps348
 go_wp2_with fail
 go_loopw [6] (fun vi wr => ∃ (i : Nat) (dk : Array Int), vi = .int .i64 i ∧ a < i ∧ i ≤ b + 1 ∧ dk.size = d.size ∧ SrtAt wr g dk ∧ Kept g g w wr ∧ Hid (Go.Sort.insOuter Go.Sort.ltInt a b i dk = Go.Sort.insOuter Go.Sort.ltInt a b (a + 1) d)) (fun vi _ => b + 1 - (intOf vi).toNat)
 case atStart => exact ⟨a + 1, d, by go_num, by omega, by omega, rfl, hS, Kept.refl _ _ _, rfl⟩
 case round =>
  obtain ⟨i, dk, rfl, hai, hib, hsk, hSk, hK, HO⟩ := hrel
  have HSk : Hid (SrtAt wr g dk) := hSk
  clear hSk hS
  by_cases hlt : i < b
  ·have h1 : (i : Int) < (b : Int) := by omega
   go_wp2_with fail
   go_loopw [7] (fun vj wr2 => ∃ (j : Nat) (dj : Array Int), vj = .int .i64 j ∧ a ≤ j ∧ j ≤ i ∧ dj.size = d.size ∧ SrtAt wr2 g dj ∧ Kept g g w wr2 ∧ Hid (Go.Sort.insInner Go.Sort.ltInt a j dj = Go.Sort.insInner Go.Sort.ltInt a i dk)) (fun vj _ => (intOf vj).toNat)
   case atStart => exact ⟨i, dk, rfl, by omega, Nat.le_refl _, hsk, HSk.out, hK, rfl⟩
   case round =>
    clear hK
    obtain ⟨j, dj, rfl, haj, hji, hsj, hSj, hK, HI⟩ := hrel
    obtain ⟨cur, hg, hsc, hc⟩ := hSj
    have lg := lt_of_objAt hg
    have HSj : Hid (SrtAt wr g dj) := ⟨cur, hg, hsc, hc⟩
    have HK : Hid (Kept g g w wr) := hK
    have OUT : Hid ((a < j → Go.Sort.ltInt dj[j]! dj[j - 1]! = false) → Go.Sort.insOuter Go.Sort.ltInt a b (i + 1) dj = Go.Sort.insOuter Go.Sort.ltInt a b (a + 1) d) := fun hs => by
     rw [← HO.out, ins_outer a b i dk hlt, ← HI.out, ins_stop a j dj hs]
    clear hK
    by_cases hja : a < j
    ·have hxj := hc j (by omega)
     have hyj := hc (j - 1) (by omega)
     have e1 : (j : Int) - 1 = ((j - 1 : Nat) : Int) := by omega
     have h2 : (a : Int) < (j : Int) := by omega
     have h3 : (j : Int) < (d.size : Int) := by omega
     have h4 : ((j - 1 : Nat) : Int) < (d.size : Int) := by omega
     have h5 : (0 : Int) ≤ (j : Int) := by omega
     have h6 : (0 : Int) ≤ ((j - 1 : Nat) : Int) := by omega
     have hne : j ≠ j - 1 := by omega
     have HX := fun m => SrtAt.swap (w := more wr m) (keep_below (below_more wr m) hg) hsc hc (i := j) (j := j - 1) (by omega) (by omega)
     obtain ⟨x, hx⟩ : ∃ x, x = dj[j]! := ⟨_, rfl⟩
     obtain ⟨y, hy⟩ : ∃ y, y = dj[j - 1]! := ⟨_, rfl⟩
     rw [← hx] at hxj
     rw [← hy] at hyj
     rw [← hx, ← hy] at HX OUT
     have HXH : Hid (∀ m, SrtAt ((more wr m).setRow g ((cur.setIfInBounds j (.int .u32 y)).setIfInBounds (j - 1) (.int .u32 x))) g (Go.Sort.swp dj j (j - 1))) := HX
     have HXY : Hid (x = dj[j]! ∧ y = dj[j - 1]!) := ⟨hx, hy⟩
     clear HX hx hy hc
     go_wp2_with fail
     ((first | (with_reducible refine wp_region_on (by kernel_rfl) (by kernel_rfl) ?_) | refine wp_region_more (by kernel_rfl) (by kernel_rfl) ?_); (repeat (first | go_big_quiet_skip | (go_big_quiet_want; go_big_quiet_op; first | go_big_quiet_on | (apply Exists.intro; refine ⟨fun _ => ?_, ?_⟩; (focus ((with_reducible exact Calls.of_more (lessC _ _ _)))); go_big_quiet_on)))); refine wpQuiet_nil ?_; rintro _ ⟨mq, rfl⟩)
     have hgm : objAt (more wr mq) g = some (.cells cur 71) := keep_below (below_more wr mq) hg
     have HKm : Hid (Kept g g w (more wr mq)) := HK.out.trans (Kept.of (below_more wr mq)) (.inl rfl)
     have HXm : Hid (SrtAt ((more wr mq).setRow g ((cur.setIfInBounds j (.int .u32 y)).setIfInBounds (j - 1) (.int .u32 x))) g (Go.Sort.swp dj j (j - 1))) := HXH.out mq
     have HSm : Hid (SrtAt (more wr mq) g dj) := HSj.out.below (below_more wr mq)
     clear HXH HK HSj hg lg
     generalize more wr mq = w4 at *
     have lg := lt_of_objAt hgm
     by_cases hl : x < y
     ·go_wp2_with fail
      go_region
      go_wp2
      go_roundw
      case rel =>
       first
       | exact ⟨j - 1, Go.Sort.swp dj j (j - 1), by go_num, by omega, by omega, by rw [size_swp']; exact hsj, HXm.out.drew, (HKm.out.trans (Kept.row _ (.inl rfl)) (.inl rfl)).drew, (by
        rw [← HI.out, ins_go a j dj hja (by rw [← HXY.out.1, ← HXY.out.2]; simpa [Go.Sort.ltInt] using hl)]; rfl)⟩
       | trace_state
      case measure => (simp [intOf] <;> omega)
     ·go_wp2
      go_roundw
      case rel =>
       first
       | exact ⟨i + 1, dj, by go_num, by omega, by omega, hsj, HSm.out, HKm.out, OUT.out (fun _ => by simpa [Go.Sort.ltInt] using hl)⟩
       | ((repeat' apply Exists.intro) <;> first | exact ⟨⟨i + 1, dj, by go_num, by omega, by omega, hsj, HSm.out, HKm.out, OUT.out (fun _ => by simpa [Go.Sort.ltInt] using hl)⟩, rfl⟩ | exact undef)
      case measure => (simp [intOf] <;> omega)
    ·have h2 : ¬ ((a : Int) < (j : Int)) := by omega
     clear hc
     go_wp2_with fail
     ((first | (with_reducible refine wp_region_on (by kernel_rfl) (by kernel_rfl) ?_) | refine wp_region_more (by kernel_rfl) (by kernel_rfl) ?_); (repeat (first | go_big_quiet_skip | (go_big_quiet_want; go_big_quiet_op; first | go_big_quiet_on | (apply Exists.intro; refine ⟨fun _ => ?_, ?_⟩; (focus ((with_reducible exact Calls.of_more (lessC _ _ _)))); go_big_quiet_on)))); refine wpQuiet_nil ?_; rintro _ ⟨mq, rfl⟩)
     have HKm : Hid (Kept g g w (more wr mq)) := HK.out.trans (Kept.of (below_more wr mq)) (.inl rfl)
     have HSm : Hid (SrtAt (more wr mq) g dj) := HSj.out.below (below_more wr mq)
     clear HK HSj hg lg
     generalize more wr mq = w4 at *
     go_wp2
     go_roundw
     case rel =>
      first
      | exact ⟨i + 1, dj, by go_num, by omega, by omega, hsj, HSm.out, HKm.out, OUT.out (fun h => absurd h hja)⟩
      | ((repeat' apply Exists.intro) <;> first | exact ⟨⟨i + 1, dj, by go_num, by omega, by omega, hsj, HSm.out, HKm.out, OUT.out (fun h => absurd h hja)⟩, rfl⟩ | exact undef)
     case measure => (simp [intOf] <;> omega)
  ·have h1 : ¬ ((i : Int) < (b : Int)) := by omega
   go_wp2
   go_end0
   refine ⟨rfl, ?_, hK⟩
   have hO := HO.out
   rw [Go.Sort.insOuter, if_neg hlt] at hO
   unfold Go.Sort.insertionSort
   rw [← hO]
   exact HSk.out
end Go.Proofs.YtdoolhbmekahdaaGreatDoor
namespace Go.Proofs.YtdoolhbmekahdaaGreatDoor
open Go.RowKit
set_option linter.unusedVariables false
set_option linter.unusedSimpArgs false
theorem tabX {P : ByteArray → Prop} {X : ByteArray} (h : X = Lib.len8tab) (p : ∀ T, T = Lib.len8tab → P T) : P X := p X h
theorem len64_u32 (x : Nat) (w : World) (h : x < 256) :
  Calls Tryz.prog 199 #[.int .u64 x] w fun r w' => r = .returned (.int .i64 ((Lib.bitLen x : Nat) : Int)) ∧ w' = w := by
 have h1 : ¬ ((4294967296 : Int) ≤ (x : Int)) := by omega
 have h2 : ¬ ((65536 : Int) ≤ (x : Int)) := by omega
 have h3 : ¬ ((256 : Int) ≤ (x : Int)) := by omega
 go_enter Tryz.func199, Tryz.ntmps199
 go_upto_region 10 with (fail)
 refine tabX (P := fun X => Code.wp _ (Code.region 10 #[_, _, _, { dst := some 22, op := Op.index _ (Operand.const (Value.string X)) (Operand.tmp 21), type := _, pos := _, after := _, guard := none }, _, _, _] false) _ _ _) (by decide +kernel) ?_
 intro T hT
 show Code.wp _ _ _ _ _
 have hz : (x : Int) < (T.size : Int) := by rw [hT, Lib.len8tab_size]; omega
 have hx0 : (0 : Int) ≤ (x : Int) := by omega
 have HT := hidS hT
 have hm : (x : Int) % 256 = (x : Int) := by omega
 clear hT
 go_wp2
 go_ret
 refine ⟨congrArg Ending.returned (congrArg (Value.int IntKind.i64) ?_), rfl⟩
 have hT := HT.out
 subst hT
 have e : ((Lib.len8tab[x]'(by omega)).toNat : Int) = ((Lib.bitLen x : Nat) : Int) := by
  have h5 := Lib.len8_of (x : Int) (by omega) (by omega)
  rw [Int.toNat_natCast] at h5
  rw [← h5]
  unfold Lib.len8
  rw [Int.toNat_natCast, getElem?_pos Lib.len8tab x (by omega)]
  rfl
 rw [e]
 have l := Lib.bitLen_le8' (x : Int) (by omega) (by omega)
 rw [Int.toNat_natCast] at l
 unfold wrap64
 omega
theorem len_u32 (x : Nat) (w : World) (h : x < 256) :
  Calls Tryz.prog 300 #[.int .u64 x] w fun r w' => r = .returned (.int .i64 ((Lib.bitLen x : Nat) : Int)) ∧ w' = w := by
 go_enter Tryz.func300, Tryz.ntmps300
 go_wp2_with fail
 refine (len64_u32 x _ h).mono ?_
 rintro e _ ⟨rfl, rfl⟩
 go_wp2
 go_ret
 exact ⟨rfl, rfl⟩
abbrev srtN : Nat := 13
theorem pdq_few (g c l : Nat) (d : Array Int) (w : World) (hS : SrtAt w g d) (hn : d.size < 13) :
  Calls Tryz.prog 316 #[.slice (some ⟨g, 0, none⟩) d.size c, .int .i64 0, .int .i64 d.size, .int .i64 l] w fun r w' => r = .returned (.tuple #[]) ∧ ∃ R, Go.Sort.PermIn 0 d.size d R ∧ Go.Sort.SortedIn Go.Sort.ltInt 0 d.size R ∧ SrtAt w' g R ∧ Kept g g w w' := by
 have hc := insertion_u32 g c 0 d.size d w hS (Nat.zero_le _) (Nat.le_refl _) (by omega)
 have HC := hidS hc
 clear hc
 have h12z : (d.size : Int) ≤ 12 := by omega
 go_enter Tryz.func316, Tryz.ntmps316
 go_wp2_with fail
 go_loopw [1, 2] (fun va vb wr => va = .int .i64 0 ∧ vb = .int .i64 d.size ∧ wr = w) (fun _ _ _ => 0)
 case atStart => exact ⟨rfl, rfl, rfl⟩
 case round =>
  obtain ⟨rfl, rfl, rfl⟩ := hrel
  have hc := HC.out
  go_wp2_with (go_at_call 348; refine hc.mono ?_; rintro e w1 ⟨rfl, hS1, hK1⟩)
  (try simp only [Exit.inBlock, Exit.then]); refine bodyPost_ret (results_none rfl _ _ _) rfl ?_
  have p := Go.Sort.insertionSort_holds Go.Sort.swo_ltInt d 0 d.size (Nat.zero_le _) (Nat.le_refl _)
  exact ⟨rfl, _, p.1, p.2, hS1, hK1⟩
theorem sort_u32 (g c : Nat) (d : Array Int) (w : World) (hS : SrtAt w g d) (hn : d.size < 13) :
  Calls Tryz.prog 268 #[.slice (some ⟨g, 0, none⟩) d.size c] w fun r w' => r = .returned (.tuple #[]) ∧ ∃ R, Go.Sort.PermIn 0 d.size d R ∧ Go.Sort.SortedIn Go.Sort.ltInt 0 d.size R ∧ SrtAt w' g R ∧ Kept g g w w' := by
 have cL : ∀ W : World, Calls Tryz.prog 300 #[.int .u64 d.size] W fun r w' => r = .returned (.int .i64 ((Lib.bitLen d.size : Nat) : Int)) ∧ w' = W := fun W => len_u32 d.size W (by omega)
 have e3 : IntKind.u64.wrap (d.size : Int) = (d.size : Int) := by rw [IntKind.wrap_u64]; omega
 have cP := pdq_few g c (Lib.bitLen d.size) d w hS hn
 generalize Lib.bitLen d.size = L at *
 have HP := hidS cP
 clear cP
 go_enter Tryz.func268, Tryz.ntmps268
 go_wp2_with fail
 refine (cL _).mono ?_
 rintro e _ ⟨rfl, rfl⟩
 go_wp2_with fail
 refine HP.out.mono ?_
 rintro e w3 ⟨rfl, hR⟩
 go_wp2
 first | go_end0 | ((try simp only [Exit.inBlock, Exit.then]); refine bodyPost_ret (results_none rfl _ _ _) rfl ?_)
 exact ⟨rfl, hR⟩
end Go.Proofs.YtdoolhbmekahdaaGreatDoor
