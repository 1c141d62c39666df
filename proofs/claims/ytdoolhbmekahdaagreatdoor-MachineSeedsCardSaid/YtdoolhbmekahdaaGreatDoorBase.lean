/- Base -/
import Derived.WalkKit
import Derived.WalkSpells
import Derived.WalkSmall
import Derived.ChangeKeysEq
import Derived.Deep.QuietTactic
import Derived.BigQuiet
import Derived.StillTailTactics
import Derived.RegionTactic
import Derived.Deep.RegionWith
import Derived.Deep.RegionLaw
import Derived.Deep.Quiet
namespace Go.Proofs.YtdoolhbmekahdaaGreatDoor
open Go.RowKit
set_option linter.unusedVariables false
set_option linter.unusedSimpArgs false
def ints (k : IntKind) (n : Nat) (f : Nat → Int) : Array Value := Array.ofFn fun i : Fin n => Value.int k (f i)
def upd (f : Nat → Int) (i : Nat) (v : Int) : Nat → Int := fun j => if j = i then v else f j
def same (n : Nat) (f g : Nat → Int) : Bool := (List.range n).all fun i => f i == g i
theorem ints_size (k : IntKind) (n : Nat) (f : Nat → Int) : (ints k n f).size = n := by simp [ints]
@[go_sem] theorem ints_get (k : IntKind) (n : Nat) (f : Nat → Int) (i : Nat) (h : i < n) : (ints k n f)[i]? = some (.int k (f i)) := by simp [ints, h]
@[go_sem] theorem ints_set (k : IntKind) (n : Nat) (f : Nat → Int) (i : Nat) (v : Int) : (ints k n f).setIfInBounds i (.int k v) = ints k n (upd f i v) := by
 apply Array.ext_getElem?
 intro j
 rw [Array.getElem?_setIfInBounds]
 by_cases hj : j < n
 ·rw [ints_get _ _ _ _ hj, ints_get _ _ _ _ hj, ints_size]
  by_cases e : i = j
  ·subst e; simp [upd, hj]
  ·have e' : j ≠ i := fun x => e x.symm
   simp [upd, e, e']
 ·have h1 : ∀ g, (ints k n g)[j]? = none := fun g => by simp [ints, hj]
  rw [h1, h1, ints_size]
  by_cases e : i = j
  ·subst e; simp [hj]
  ·simp [e]
theorem ints_congr {k : IntKind} {n : Nat} {f g : Nat → Int} (h : ∀ i, i < n → f i = g i) : ints k n f = ints k n g := by
 unfold ints
 congr 1
 funext i
 rw [h i i.2]
theorem same_iff (n : Nat) (f g : Nat → Int) : same n f g = true ↔ ∀ i, i < n → f i = g i := by
 simp [same]
theorem same_refl (n : Nat) (f : Nat → Int) : same n f f = true := (same_iff n f f).2 fun _ _ => rfl
section
variable {P : Program} (w : World)
theorem run_items (d e : Nat) (k : IntKind) (n : Nat) (f g : Nat → Int) (he : P.underlying e = some (.int k)) (hc : P.cellsOf e = 1) :
  ∀ l : List Nat, (∀ i ∈ l, i < n) → (Op.eqItems (d + 1) e (P.cellsOf e) (ints k n f) (ints k n g) l).run P w = .ok (l.all fun i => f i == g i) w := by
 intro l
 induction l with
 | nil => intro _; simp [Op.eqItems]
 | cons i l ih =>
  intro hl
  have hi : i < n := hl i (by simp)
  have px : ∀ h : Nat → Int, (part e (ints k n h) (i * P.cellsOf e)).run P w = .ok (.int k (h i)) w := by
   intro h
   rw [hc, Nat.mul_one]
   simp [part, isAgg, run_underlying he, ints_get _ _ _ _ hi]
  have pe := run_equalIn_int (P := P) w d e k k (f i) (g i) he
  simp only [Op.eqItems, Sem.run_bind, px, pe, Result.andThen_ok, List.all_cons]
  cases hb : (f i == g i)
  ·simp
  ·simp only [Bool.not_true, Bool.false_eq_true, if_false, Sem.run_pure, Result.andThen_ok, Bool.true_and]
   exact ih fun j hj => hl j (by simp [hj])
theorem run_eql_ints {t e : TypeId} {n : Nat} {i : TypeInfo} (k : IntKind) (f g : Nat → Int) (hu : P.underlying t = some (.array n e)) (he : P.underlying e = some (.int k)) (hi : P.info? e = some i) (hs : i.size = 1) :
  (binOp .eql t (.agg (ints k n f)) (.agg (ints k n g))).run P w = .ok (.bool (same n f g)) w := by
 have hc : P.cellsOf e = 1 := by simp [Program.cellsOf, hi, hs]
 rw [run_eql_struct, show (10000 : Nat) = 9998 + 1 + 1 from rfl, run_equalIn_array w (9998 + 1) _ _ hu hi, run_items w 9998 e k n f g he hc (List.range n) (by simp)]
 rfl
theorem run_neq_ints {t e : TypeId} {n : Nat} {i : TypeInfo} (k : IntKind) (f g : Nat → Int) (hu : P.underlying t = some (.array n e)) (he : P.underlying e = some (.int k)) (hi : P.info? e = some i) (hs : i.size = 1) :
  (binOp .neq t (.agg (ints k n f)) (.agg (ints k n g))).run P w = .ok (.bool (!same n f g)) w := by
 have hc : P.cellsOf e = 1 := by simp [Program.cellsOf, hi, hs]
 rw [run_neq_struct, show (10000 : Nat) = 9998 + 1 + 1 from rfl, run_equalIn_array w (9998 + 1) _ _ hu hi, run_items w 9998 e k n f g he hc (List.range n) (by simp)]
 rfl
end
theorem Grew.alloc {w w' : World} (h : Below w.heap.size w w') (o : Obj) : Below w.heap.size w (w'.alloc o) := h.alloc h.size o
theorem Grew.trans {a b c : World} (h : Below a.heap.size a b) (k : Below b.heap.size b c) : Below a.heap.size a c := h.trans (k.mono h.size)
theorem Grew.refl (w : World) : Below w.heap.size w w := Below.refl _ _
theorem Grew.drewN {w w' : World} (h : Below w.heap.size w w') (n : Nat) : Below w.heap.size w (w'.drewN n) := below_drewN h n
theorem u8_nat (x : Int) (h0 : 0 ≤ x) (h1 : x ≤ 255) : ∃ a : Nat, x = a ∧ a < 256 := ⟨x.toNat, by omega, by omega⟩
theorem u8_or (a b : Nat) (ha : a < 256) (hb : b < 256) : bits .or .u8 (a : Int) (b : Int) = ((a ||| b : Nat) : Int) := (bits_nat .u8 8 (by decide) wraps_u8 a b ha hb).2
theorem u8_and (a b : Nat) (ha : a < 256) (hb : b < 256) : bits .and .u8 (a : Int) (b : Int) = ((a &&& b : Nat) : Int) := (bits_nat .u8 8 (by decide) wraps_u8 a b ha hb).1
theorem u8_xor (a b : Nat) (ha : a < 256) (hb : b < 256) : bits .xor .u8 (a : Int) (b : Int) = ((a ^^^ b : Nat) : Int) := by
 have h1 : (BitVec.ofInt 8 (a : Int)).toNat = a := by rw [BitVec.ofInt_natCast, BitVec.toNat_ofNat]; exact Nat.mod_eq_of_lt (by omega)
 have h2 : (BitVec.ofInt 8 (b : Int)).toNat = b := by rw [BitVec.ofInt_natCast, BitVec.toNat_ofNat]; exact Nat.mod_eq_of_lt (by omega)
 have hx : a ^^^ b < 2 ^ 8 := Nat.xor_lt_two_pow (by omega) (by omega)
 show IntKind.u8.wrap ((BitVec.ofInt 8 (a : Int) ^^^ BitVec.ofInt 8 (b : Int)).toNat : Int) = _
 rw [BitVec.toNat_xor, h1, h2]
 exact wraps_u8 _ (by omega) (by omega)
theorem nat_or_zero (a b : Nat) : a ||| b = 0 ↔ a = 0 ∧ b = 0 := by
 constructor
 ·intro h
  constructor
  ·apply Nat.eq_of_testBit_eq; intro i
   have := congrArg (fun n => n.testBit i) h
   simp at this; simp [this.1]
  ·apply Nat.eq_of_testBit_eq; intro i
   have := congrArg (fun n => n.testBit i) h
   simp at this; simp [this.2]
 ·rintro ⟨rfl, rfl⟩; rfl
theorem nat_xor_zero (a b : Nat) : a ^^^ b = 0 ↔ a = b := by
 constructor
 ·intro h
  apply Nat.eq_of_testBit_eq; intro i
  have := congrArg (fun n => n.testBit i) h
  simp only [Nat.testBit_xor, Nat.zero_testBit] at this
  revert this
  cases a.testBit i <;> cases b.testBit i <;> simp
 ·rintro rfl; simp
theorem nat_xor_back (a b : Nat) : a ^^^ (a ^^^ b) = b := by rw [← Nat.xor_assoc, Nat.xor_self, Nat.zero_xor]
def diffs (a b : Nat → Int) : Nat → Int
 | 0 => 0
 | k + 1 => bits .or .u8 (diffs a b k) (bits .xor .u8 (a k) (b k))
def Bytes (n : Nat) (a : Nat → Int) : Prop := ∀ i, i < n → 0 ≤ a i ∧ a i ≤ 255
theorem diffs_zero (n : Nat) (a b : Nat → Int) (ha : Bytes n a) (hb : Bytes n b) : ∀ k, k ≤ n → ∃ d : Nat, diffs a b k = d ∧ d < 256 ∧ (d = 0 ↔ ∀ i, i < k → a i = b i) := by
 intro k
 induction k with
 | zero => intro _; exact ⟨0, rfl, by decide, by simp⟩
 | succ k ih =>
  intro hk
  obtain ⟨d, hd, hd1, hd2⟩ := ih (by omega)
  obtain ⟨x, hx, hx1⟩ := u8_nat (a k) (ha k (by omega)).1 (ha k (by omega)).2
  obtain ⟨y, hy, hy1⟩ := u8_nat (b k) (hb k (by omega)).1 (hb k (by omega)).2
  have h1 : x ^^^ y < 2 ^ 8 := Nat.xor_lt_two_pow (by omega) (by omega)
  have h2 : d ||| (x ^^^ y) < 2 ^ 8 := Nat.or_lt_two_pow (by omega) h1
  refine ⟨d ||| (x ^^^ y), ?_, by omega, ?_⟩
  ·show bits .or .u8 (diffs a b k) (bits .xor .u8 (a k) (b k)) = _
   rw [hd, hx, hy, u8_xor x y hx1 hy1, u8_or d _ hd1 (by omega)]
  ·rw [nat_or_zero, nat_xor_zero, hd2]
   constructor
   ·rintro ⟨h, e⟩ i hi
    by_cases hik : i = k
    ·subst hik; rw [hx, hy, e]
    ·exact h i (by omega)
   ·intro h
    refine ⟨fun i hi => h i (by omega), ?_⟩
    have := h k (by omega)
    rw [hx, hy] at this
    exact_mod_cast this
theorem diffs_same (n : Nat) (a b : Nat → Int) (ha : Bytes n a) (hb : Bytes n b) : (diffs a b n == 0) = same n a b := by
 obtain ⟨d, hd, _, h⟩ := diffs_zero n a b ha hb n (Nat.le_refl _)
 rw [Bool.eq_iff_iff, same_iff, ← h, hd]
 simp
def nought : Nat → Int := fun _ => 0
def part' (f : Nat → Int) (k : Nat) : Nat → Int := fun i => if i < k then f i else 0
theorem part_zero (f : Nat → Int) : part' f 0 = nought := by funext i; simp [part', nought]
theorem part_succ (f : Nat → Int) (k : Nat) : upd (part' f k) k (f k) = part' f (k + 1) := by
 funext i
 unfold upd part'
 by_cases h : i = k
 ·subst h; simp
 ·by_cases h2 : i < k
  ·simp [h, h2, show i < k + 1 by omega]
  ·simp [h, h2, show ¬ i < k + 1 by omega]
theorem ints_part (k : IntKind) (n : Nat) (f : Nat → Int) : ints k n (part' f n) = ints k n f := ints_congr fun i hi => by simp [part', hi]
theorem i64_and1 (b : Int) : bits .and .i64 b 1 = b % 2 := by
 have h : (BitVec.ofInt 64 b &&& BitVec.ofInt 64 1).toNat = (b % 2).toNat := by
  rw [BitVec.toNat_and, BitVec.toNat_ofInt]
  show (b % ((2 ^ 64 : Nat) : Int)).toNat &&& 1 = _
  rw [Nat.and_one_is_mod]
  omega
 show IntKind.i64.wrap ((BitVec.ofInt 64 b &&& BitVec.ofInt 64 1).toNat : Int) = _
 rw [h, IntKind.wrap_i64]
 omega
def masked (m : Int) (x y : Nat → Int) : Nat → Int := fun i => bits .xor .u8 (x i) (bits .and .u8 m (bits .xor .u8 (x i) (y i)))
def oneOf (b : Int) (x y : Nat → Int) : Nat → Int := if b % 2 = 0 then x else y
theorem masked_is (b : Int) (x y : Nat → Int) (hx : Bytes 32 x) (hy : Bytes 32 y) : ∀ i, i < 32 → masked (-(bits .and .i64 b 1 % 256) % 256) x y i = oneOf b x y i := by
 intro i hi
 obtain ⟨p, hp, hp1⟩ := u8_nat (x i) (hx i hi).1 (hx i hi).2
 obtain ⟨q, hq, hq1⟩ := u8_nat (y i) (hy i hi).1 (hy i hi).2
 have h1 : p ^^^ q < 2 ^ 8 := Nat.xor_lt_two_pow (by omega) (by omega)
 unfold masked oneOf
 rw [i64_and1]
 by_cases hb : b % 2 = 0
 ·rw [if_pos hb, hb, hp, hq, u8_xor p q hp1 hq1]
  show bits .xor .u8 (p : Int) (bits .and .u8 ((0 : Nat) : Int) ((p ^^^ q : Nat) : Int)) = p
  rw [u8_and 0 _ (by decide) (by omega), Nat.zero_and, u8_xor p 0 hp1 (by decide), Nat.xor_zero]
 ·have hb1 : b % 2 = 1 := by omega
  rw [if_neg hb, hb1, hp, hq, u8_xor p q hp1 hq1]
  show bits .xor .u8 (p : Int) (bits .and .u8 ((255 : Nat) : Int) ((p ^^^ q : Nat) : Int)) = q
  have h2 : 255 &&& (p ^^^ q) = p ^^^ q := by
   rw [Nat.and_comm, show (255 : Nat) = 2 ^ 8 - 1 from rfl, Nat.and_two_pow_sub_one_eq_mod]
   omega
  rw [u8_and 255 _ (by decide) (by omega), h2, u8_xor p _ hp1 (by omega), nat_xor_back]
def objAt (w : World) (n : Nat) : Option Obj := w.heap[n]?
@[go_sem] theorem objAt_alloc_at (w : World) (o : Obj) (n : Nat) (hn : n = w.heap.size) : objAt (w.alloc o) n = some o := by subst hn; exact heap_alloc_new w o
@[go_sem] theorem objAt_alloc_past (w : World) (o : Obj) (n : Nat) (hn : n < w.heap.size) : objAt (w.alloc o) n = objAt w n := Below.heap_alloc w o n hn
@[go_sem] theorem objAt_drew (w : World) (n : Nat) : objAt w.drew n = objAt w n := rfl
@[go_sem] theorem objAt_drewN (w : World) (m n : Nat) : objAt (w.drewN m) n = objAt w n := rfl
@[go_sem] theorem objAt_setCell_past (w : World) (b i n : Nat) (v : Value) (h : n ≠ b) : objAt (w.setCell ⟨b, i, none⟩ v) n = objAt w n := Below.heap_setCell w _ v n h
structure More where
 d : Nat
 os : Array Obj
instance : Inhabited More := ⟨⟨0, #[]⟩⟩
def more (w : World) (m : More) : World := { w with heap := w.heap ++ m.os, drawn := m.d }
theorem heap_more (w : World) (m : More) (n : Nat) (hn : n < w.heap.size) : (more w m).heap[n]? = w.heap[n]? := by
 show (w.heap ++ m.os)[n]? = _
 rw [Array.getElem?_append_left hn]
@[go_sem] theorem objAt_more (w : World) (m : More) (n : Nat) (hn : n < w.heap.size) : objAt (more w m) n = objAt w n := heap_more w m n hn
@[go_sem] theorem cell_more (w : World) (m : More) (n i : Nat) (hn : n < w.heap.size) : (more w m).cell? ⟨n, i, none⟩ = w.cell? ⟨n, i, none⟩ :=
 World.cell?_of_block (w := w) (heap_more w m n hn)
@[go_sem] theorem frozen_more (w : World) (m : More) (n i : Nat) (hn : n < w.heap.size) : (more w m).frozen? ⟨n, i, none⟩ = w.frozen? ⟨n, i, none⟩ :=
 World.frozen?_of_block (w := w) (heap_more w m n hn)
theorem more_self (w : World) : more w ⟨w.drawn, #[]⟩ = w := by cases w; simp [more]
theorem below_more (w : World) (m : More) : Below w.heap.size w (more w m) :=
 ⟨rfl, rfl, rfl, by simp [more], fun k hk => heap_more w m k hk⟩
theorem more_of_below {w w' : World} (h : Below w.heap.size w w') : ∃ m, w' = more w m := by
 refine ⟨⟨w'.drawn, w'.heap.extract w.heap.size w'.heap.size⟩, ?_⟩
 obtain ⟨h1, h2, h3, h4, h5⟩ := h
 have e : w'.heap = w.heap ++ w'.heap.extract w.heap.size w'.heap.size := by
  apply Array.ext_getElem?
  intro i
  by_cases hi : i < w.heap.size
  ·rw [Array.getElem?_append_left hi]; exact h5 i hi
  ·rw [Array.getElem?_append_right (by omega), Array.getElem?_extract]
   have : w.heap.size + (i - w.heap.size) = i := by omega
   rw [this]
   split
   ·rfl
   ·apply Array.getElem?_eq_none; omega
 cases w'
 simp only [more]
 congr 1
theorem Calls.of_more {P : Program} {f : FuncId} {args : Array Value} {W : World} {m : More} {v : Value}
  (h : Calls P f args (more W m) fun e w' => e = .returned v ∧ Below (more W m).heap.size (more W m) w') : Calls P f args (more W m) fun e w'' => e = .returned v ∧ ∃ m, w'' = more W m :=
 h.mono fun _ _ ⟨he, hb⟩ => ⟨he, more_of_below ((below_more W m).trans (hb.mono (below_more W m).size))⟩
@[go_sem] theorem more_drew (w : World) (m : More) : (more w m).drew = more w ⟨m.d + 1, m.os⟩ := rfl
@[go_sem] theorem more_drewN (w : World) (m : More) (n : Nat) : (more w m).drewN n = more w ⟨m.d + n, m.os⟩ := rfl
@[go_sem] theorem drew_more (w : World) (m : More) : more w.drew m = more w m := rfl
@[go_sem] theorem drewN_more (w : World) (n : Nat) (m : More) : more (w.drewN n) m = more w m := rfl
theorem more_more (w : World) (m m' : More) : more (more w m) m' = more w ⟨m'.d, m.os ++ m'.os⟩ := by simp [more, Array.append_assoc]
theorem size_more (w : World) (m : More) : w.heap.size ≤ (more w m).heap.size := (below_more w m).size
theorem Grew.more {w w' : World} (h : Below w.heap.size w w') (m : More) : Below w.heap.size w (more w' m) := h.trans ((below_more w' m).mono h.size)
theorem run_index_ints {P : Program} (w : World) {t e : TypeId} {n : Nat} {i : TypeInfo} (k k' : IntKind) (f : Nat → Int) (j : Int) (hu : P.underlying t = some (.array n e)) (he : P.underlying e = some (.int k)) (hi : P.info? e = some i) (hs : i.size = 1) (h0 : 0 ≤ j) (h1 : j < n) :
  (Instr.index t (.agg (ints k n f)) (.int k' j)).run P w = .ok (.int k (f j.toNat)) w := by
 have hlt : j.toNat < n := by omega
 have hc : P.cellsOf e = 1 := by simp [Program.cellsOf, hi, hs]
 simp [Instr.index, hc, asIntOf, Sem.run_bind, run_underlying hu, h0, h1, run_sizeOf w hi, hs, part, isAgg, run_underlying he, ints_get _ _ _ _ hlt]
theorem more_alloc (w : World) (m : More) (o : Obj) : (more w m).alloc o = more w ⟨m.d, m.os.push o⟩ := by
 unfold more World.alloc
 simp
@[go_sem] theorem lt_more (w : World) (m : More) (n : Nat) (h : n < w.heap.size) : (n < (more w m).heap.size) = True := by
 have := size_more w m
 simp; omega
@[go_sem] theorem lt_more1 (w : World) (m : More) (n : Nat) (h : n < w.heap.size) : (n < (more w m).heap.size + 1) = True := by
 have := size_more w m
 simp; omega
@[go_sem] theorem lt_more2 (w : World) (m : More) (n : Nat) (h : n < w.heap.size) : (n < (more w m).heap.size + 1 + 1) = True := by
 have := size_more w m
 simp; omega
@[go_sem] theorem lt_more3 (w : World) (m : More) (n : Nat) (h : n < w.heap.size) : (n < (more w m).heap.size + 1 + 1 + 1) = True := by
 have := size_more w m
 simp; omega
@[go_sem] theorem lt_more4 (w : World) (m : More) (n : Nat) (h : n < w.heap.size) : (n < (more w m).heap.size + 1 + 1 + 1 + 1) = True := by
 have := size_more w m
 simp; omega
@[go_sem] theorem lt_more5 (w : World) (m : More) (n : Nat) (h : n < w.heap.size) : (n < (more w m).heap.size + 1 + 1 + 1 + 1 + 1) = True := by
 have := size_more w m
 simp; omega
@[go_sem] theorem lt_more6 (w : World) (m : More) (n : Nat) (h : n < w.heap.size) : (n < (more w m).heap.size + 1 + 1 + 1 + 1 + 1 + 1) = True := by
 have := size_more w m
 simp; omega
@[go_sem] theorem lt_world1 (w : World) (n : Nat) (h : n < w.heap.size) : (n < w.heap.size + 1) = True := by
 simp; omega
@[go_sem] theorem lt_world2 (w : World) (n : Nat) (h : n < w.heap.size) : (n < w.heap.size + 1 + 1) = True := by
 simp; omega
@[go_sem] theorem lt_world3 (w : World) (n : Nat) (h : n < w.heap.size) : (n < w.heap.size + 1 + 1 + 1) = True := by
 simp; omega
@[go_sem] theorem lt_world4 (w : World) (n : Nat) (h : n < w.heap.size) : (n < w.heap.size + 1 + 1 + 1 + 1) = True := by
 simp; omega
@[go_sem] theorem lt_world5 (w : World) (n : Nat) (h : n < w.heap.size) : (n < w.heap.size + 1 + 1 + 1 + 1 + 1) = True := by
 simp; omega
@[go_sem] theorem lt_world6 (w : World) (n : Nat) (h : n < w.heap.size) : (n < w.heap.size + 1 + 1 + 1 + 1 + 1 + 1) = True := by
 simp; omega
@[go_sem] theorem lt_world7 (w : World) (n : Nat) (h : n < w.heap.size) : (n < w.heap.size + 1 + 1 + 1 + 1 + 1 + 1 + 1) = True := by
 simp; omega
@[go_sem] theorem lt_world8 (w : World) (n : Nat) (h : n < w.heap.size) : (n < w.heap.size + 1 + 1 + 1 + 1 + 1 + 1 + 1 + 1) = True := by
 simp; omega
theorem lt_of_objAt {w : World} {n : Nat} {o : Obj} (h : objAt w n = some o) : n < w.heap.size := (Array.getElem?_eq_some_iff.1 h).1
theorem keep_below {W w1 : World} (hb : Below W.heap.size W w1) {n : Nat} {o : Obj} (h : objAt W n = some o) : objAt w1 n = some o := (hb.block n (lt_of_objAt h)).trans h
theorem keep_alloc {w : World} {n : Nat} {o : Obj} (x : Obj) (h : objAt w n = some o) : objAt (w.alloc x) n = some o := (objAt_alloc_past w x n (lt_of_objAt h)).trans h
theorem keep_drewN {w : World} {n : Nat} {o : Obj} (k : Nat) (h : objAt w n = some o) : objAt (w.drewN k) n = some o := h
theorem keep_more {w : World} {n : Nat} {o : Obj} (m : More) (h : objAt w n = some o) : objAt (more w m) n = some o := (objAt_more w m n (lt_of_objAt h)).trans h
theorem setRow_setRow (w : World) (g : Nat) (a b : Array Value) : (w.setRow g a).setRow g b = w.setRow g b := by
 unfold World.setRow
 congr 1
 apply Array.ext_getElem?
 intro k
 simp only [Array.getElem?_modify]
 by_cases hk : g = k
 ·subst hk
  rw [if_pos rfl, if_pos rfl, if_pos rfl]
  cases w.heap[g]? with
  | none => rfl
  | some o => cases o <;> rfl
 ·simp [hk]
def appendNext (ats : Array TypeId) (ty : TypeId) (args : Array Value) : Sem Next := do pure (.value (← Builtin.append_ ats ty args))
def putAll (A : Array Value) : Nat → List Value → Array Value
 | _, [] => A
 | o, v :: r => putAll (A.setIfInBounds o v) (o + 1) r
theorem setCells_row (b : Nat) (te : TypeId) : ∀ (vs : List Value) (o : Nat) (A : Array Value) (w : World), w.heap[b]? = some (.cells A te (0, 0)) → w.setCells b o vs = w.setRow b (putAll A o vs)
 | [], o, A, w, h => by
  show w = w.setRow b A
  unfold World.setRow
  cases w
  congr 1
  apply Array.ext_getElem?
  intro k
  rw [Array.getElem?_modify]
  by_cases hk : b = k
  ·subst hk; rw [if_pos rfl]; simp only at h; rw [h]; rfl
  ·rw [if_neg hk]
 | v :: r, o, A, w, h => by
  show (w.setCell ⟨b, o, none⟩ v).setCells b (o + 1) r = w.setRow b (putAll (A.setIfInBounds o v) (o + 1) r)
  rw [setCells_row b te r (o + 1) (A.setIfInBounds o v) _ (heap_setCell_same w b o A te v h), setCell_eq_setRow w b o A te (0, 0) v h, setRow_setRow]
def appendOf (P : Program) (ats : Array TypeId) (ty : TypeId) (b n cap b2 m c : Nat) (w : World) (o o2 : Option Obj) : Result Next :=
 match o, o2 with
 | some (.cells A _ (0, 0)), some (.cells B _ _) =>
  if n + m ≤ cap ∧ n + m ≤ A.size ∧ m ≤ B.size ∧ B.all (·.oneCell') = true then .ok (.value (.slice (some ⟨b, 0, none⟩) (n + m) cap)) (w.setRow b (putAll A n (B.toList.take m)))
  else (appendNext ats ty #[.slice (some ⟨b, 0, none⟩) n cap, .slice (some ⟨b2, 0, none⟩) m c]).run P w
 | _, _ => (appendNext ats ty #[.slice (some ⟨b, 0, none⟩) n cap, .slice (some ⟨b2, 0, none⟩) m c]).run P w
theorem append_eq {P : Program} {t e : TypeId} {ie : TypeInfo} (ht : P.underlying t = some (.slice e)) (hi : P.info? e = some ie) (hs : ie.size = 1) (ty : TypeId) (b n cap b2 m c : Nat) (w : World) :
  (appendNext #[t, t] ty #[.slice (some ⟨b, 0, none⟩) n cap, .slice (some ⟨b2, 0, none⟩) m c]).run P w = appendOf P #[t, t] ty b n cap b2 m c w (objAt w b) (objAt w b2) := by
 unfold appendOf
 split
 ·rename_i A te B te' fr hb hb2
  split
  ·rename_i h
   obtain ⟨h1, h2, h3, h4⟩ := h
   unfold objAt at hb hb2
   have hlen : (B.toList.take m).length = m := by simp [h3]
   have hnew : ∀ j u, (B.toList.take m)[j]? = some u → w.cell? ((⟨b2, 0, none⟩ : Addr).add j) = some u := by
    intro j u hj
    have : (⟨b2, 0, none⟩ : Addr).add j = ⟨b2, j, none⟩ := by unfold Addr.add; split <;> simp_all
    rw [this, cell_of_row w b2 j _ _ _ hb2]
    rw [List.getElem?_take] at hj
    split at hj
    ·simpa using hj
    ·cases hj
   have hrun := run_append_room_cells (P := P) w t ty e ie ht hi b 0 n cap ⟨b2, 0, none⟩ m c (B.toList.take m) (by rw [hlen, hs, Nat.mul_one]) hnew
    (by intro u hu; exact (Array.all_eq_true_iff_forall_mem.1 h4) u (by simpa using List.mem_of_mem_take hu)) h1
    (fun j hj => by
     rw [hlen] at hj
     rw [hs, cell_of_row w b _ _ _ _ hb]
     simp; omega)
    (fun j _ => frozen_of_row w b _ _ _ hb)
   unfold appendNext
   simp only [Sem.run_bind, hrun, Result.andThen_ok, Sem.run_pure]
   congr 1
   rw [hs, Nat.zero_add, Nat.mul_one, setCells_row b te _ n A w hb]
  ·rfl
 ·rfl
theorem appendOf_two {P : Program} {ats : Array TypeId} {k : IntKind} (ty : TypeId) (b n cap b2 N : Nat) (w : World) (f : Nat → Int) (x y : Int) (te te' : TypeId) (fr : Nat × Nat) (h1 : n + 2 ≤ cap) (h2 : n + 2 ≤ N) :
  appendOf P ats ty b n cap b2 2 2 w (some (.cells (ints k N f) te (0, 0))) (some (.cells #[.int k x, .int k y] te' fr)) = .ok (.value (.slice (some ⟨b, 0, none⟩) (n + 2) cap)) (w.setRow b (ints k N (upd (upd f n x) (n + 1) y))) := by
 unfold appendOf
 simp only []
 rw [if_pos ⟨h1, by rw [ints_size]; exact h2, by simp, by simp [Value.oneCell']⟩]
 simp [putAll, ints_set]
attribute [irreducible] appendNext appendOf
def strOf (n : Nat) (f : Nat → Int) : ByteArray := ((List.range n).map f).foldl (fun r n => r.push (UInt8.ofNat n.toNat)) ByteArray.empty
theorem foldl_push (ns : List Int) : ∀ s : ByteArray, (ns.foldl (fun r n => r.push (UInt8.ofNat n.toNat)) s).data.toList = s.data.toList ++ ns.map fun n => UInt8.ofNat n.toNat := by
 induction ns with
 | nil => intro s; simp
 | cons n ns ih => intro s; rw [List.foldl_cons, ih]; simp [ByteArray.push]
theorem strOf_list (n : Nat) (f : Nat → Int) : (strOf n f).toList = (List.range n).map fun i => UInt8.ofNat (f i).toNat := by
 rw [ByteArray.toList_eq]
 unfold strOf
 rw [foldl_push, List.map_map]
 rfl
theorem run_str {P : Program} {src dst e te : TypeId} {fr : Nat × Nat} (hs : P.underlying src = some (.slice e)) (he : P.underlying e = some (.int .u8)) (hd : P.underlying dst = some .string) (b n c N : Nat) (f : Nat → Int) (w : World)
  (hb : objAt w b = some (.cells (ints .u8 N f) te fr)) (hn : n ≤ N) : (convert src dst (.slice (some ⟨b, 0, none⟩) n c)).run P w = .ok (.string (strOf n f)) w := by
 unfold objAt at hb
 rw [run_convert_bytes_string w src dst e _ n c hs he hd]
 refine run_bytesToString w _ n c ((List.range n).map f) ?_
 have h := run_loadCells_list (P := P) w ⟨b, 0, none⟩ (((List.range n).map f).map (Value.int .u8)) (fun j v hv => by
  have hadd : (⟨b, 0, none⟩ : Addr).add j = ⟨b, j, none⟩ := by unfold Addr.add; split <;> simp_all
  rw [hadd, cell_of_row w b j _ _ _ hb]
  rw [List.map_map, List.getElem?_map] at hv
  have hj : j < n := by
   rcases Nat.lt_or_ge j n with h | h
   ·exact h
   ·rw [List.getElem?_eq_none (by simpa using h)] at hv; cases hv
  rw [ints_get _ _ _ _ (by omega)]
  rw [List.getElem?_range hj] at hv
  exact hv)
 simpa using h
theorem strOf_congr {n : Nat} {f g : Nat → Int} (h : ∀ i, i < n → f i = g i) : strOf n f = strOf n g := by
 unfold strOf
 congr 1
 exact List.map_congr_left fun i hi => h i (by simpa using hi)
theorem strOf_part (n : Nat) (f : Nat → Int) : strOf n (part' f n) = strOf n f := strOf_congr fun i hi => by simp [part', hi]
theorem more_on {w w' : World} {m : More} (h : Below (more w m).heap.size (more w m) w') : ∃ m', w' = more w m' := by
 obtain ⟨m', rfl⟩ := more_of_below h
 exact ⟨_, more_more w m m'⟩
def mix (f g : Nat → Int) (k : Nat) : Nat → Int := fun i => if i < k then f i else g i
theorem mix_zero (f g : Nat → Int) : mix f g 0 = g := by funext i; simp [mix]
theorem mix_succ (f g : Nat → Int) (k : Nat) : upd (mix f g k) k (f k) = mix f g (k + 1) := by
 funext i
 unfold upd mix
 by_cases h : i = k
 ·subst h; simp
 ·by_cases h2 : i < k
  ·simp [h, h2, show i < k + 1 by omega]
  ·simp [h, h2, show ¬ i < k + 1 by omega]
theorem mix_at (f g : Nat → Int) (k : Nat) : mix f g k k = g k := by simp [mix]
theorem ints_mix (k : IntKind) (n : Nat) (f g : Nat → Int) : ints k n (mix f g n) = ints k n f := ints_congr fun i hi => by simp [mix, hi]
attribute [irreducible] ints
end Go.Proofs.YtdoolhbmekahdaaGreatDoor
namespace Go.Proofs.YtdoolhbmekahdaaGreatDoor
set_option linter.unusedVariables false
set_option linter.unusedSimpArgs false
section
variable {P : Program} {ops : Array Oper} {md : Region.Mode} {C : World → Prop} {Q : Exit → Act → World → Prop} {n : Nat}
def waits (md : Region.Mode) (ops : Array Oper) (j i : Nat) : Bool :=
 match ops[j]? with
 | some oj => oj.after.any fun e => Region.binds md e && e.on == i
 | none => false
def waitsT (md : Region.Mode) (ops : Array Oper) : Nat → Nat → Nat → Bool
 | 0, j, i => waits md ops j i
 | m + 1, j, i => waits md ops j i || (List.range ops.size).any fun k => waits md ops j k && waitsT md ops m k i
def tailB (md : Region.Mode) (ops : Array Oper) (n : Nat) : Bool :=
 (List.range ops.size).all fun j => decide (j < n) || (List.range n).all fun i => waitsT md ops 3 j i
def Closed (md : Region.Mode) (ops : Array Oper) (listed : Array Bool) : Prop :=
 ∀ j oj, ops[j]? = some oj → listed.getD j false = true → ∀ e ∈ oj.after, Region.binds md e = true → listed.getD e.on false = true
def headB (md : Region.Mode) (ops : Array Oper) : Nat → Nat → Array Bool → Bool
 | 0, k, listed => (List.range k).all fun i => listed.getD i true
 | m + 1, k, listed => (Region.ready md ops listed).contains k && Region.free md ops listed k && headB md ops m (k + 1) (listed.setIfInBounds k true)
def marks : Nat → Nat → Array Bool → Array Bool
 | 0, _, listed => listed
 | m + 1, k, listed => marks m (k + 1) (listed.setIfInBounds k true)
theorem waits_spec {j i : Nat} (h : waits md ops j i = true) : ∃ oj, ops[j]? = some oj ∧ ∃ e ∈ oj.after, Region.binds md e = true ∧ e.on = i := by
 unfold waits at h
 split at h
 ·rename_i oj hj
  obtain ⟨e, he, hb⟩ := Array.any_eq_true'.1 h
  simp only [Bool.and_eq_true, beq_iff_eq] at hb
  exact ⟨oj, hj, e, he, hb.1, hb.2⟩
 ·cases h
def wpAnyC (P : Program) (md : Region.Mode) (ops : Array Oper) (C : World → Prop) (Q : Exit → Act → World → Prop) (n : Nat) : Nat → Array Bool → Act → Prop
 | 0, listed, a => Region.ready md ops listed = [] ∧ ∀ w, C w → Q .normal a w
 | fuel + 1, listed, a => (Region.ready md ops listed = [] → ∀ w, C w → Q .normal a w) ∧
  ∀ i ∈ Region.ready md ops listed, (i < n → qOp P ops C i (wpAnyC P md ops C Q n fuel (listed.setIfInBounds i true)) a) ∧
   (¬ i < n → ∀ w, C w → wpOp P ops Q i (wpAny P md ops Q fuel (listed.setIfInBounds i true)) a w)
theorem wpAny_of_C : ∀ (fuel : Nat) (listed : Array Bool) (a : Act) (w : World), C w → wpAnyC P md ops C Q n fuel listed a → wpAny P md ops Q fuel listed a w
 | 0, _, _, _, hw, h => ⟨h.1, h.2 _ hw⟩
 | fuel + 1, _, _, _, hw, h => ⟨fun h0 => h.1 h0 _ hw, fun i hi => by
   by_cases hin : i < n
   ·exact wpOp_of_qOp hw (fun a' w' hw' => wpAny_of_C fuel _ a' w' hw') ((h.2 i hi).1 hin)
   ·exact (h.2 i hi).2 hin _ hw⟩
theorem Closed.set {i : Nat} {listed : Array Bool} (h : Closed md ops listed) (hi : i ∈ Region.ready md ops listed) : Closed md ops (listed.setIfInBounds i true) := by
 intro j oj hj hl e he hb
 by_cases hij : i = j
 ·subst hij
  obtain ⟨_, oi, hoi, hall⟩ := mem_ready.1 hi
  have : oj = oi := Option.some.inj (hj.symm.trans hoi)
  subst this
  exact getD_set_true (hall e he hb)
 ·rw [getD_set_ne false hij] at hl
  exact getD_set_true (h j oj hj hl e he hb)
theorem Closed.none (m : Nat) : Closed md ops (Array.replicate m false) := by
 intro j oj _ hl
 exfalso
 rcases Nat.lt_or_ge j m with h | h
 ·simp [h] at hl
 ·simp [h] at hl
theorem listed_of_waits {i j : Nat} {listed : Array Bool} (hc : Closed md ops listed) (hw : waits md ops j i = true) (hj : j ∈ Region.ready md ops listed ∨ listed.getD j false = true) : listed.getD i false = true := by
 obtain ⟨oj', hoj', e, he, hb, hon⟩ := waits_spec hw
 rcases hj with hj | hj
 ·obtain ⟨_, oj, hoj, hall⟩ := mem_ready.1 hj
  have : oj' = oj := Option.some.inj (hoj'.symm.trans hoj)
  subst this
  rw [← hon]; exact hall e he hb
 ·rw [← hon]; exact hc j oj' hoj' hj e he hb
theorem listed_of_waitsT {i : Nat} {listed : Array Bool} (hc : Closed md ops listed) : ∀ (m j : Nat), waitsT md ops m j i = true → (j ∈ Region.ready md ops listed ∨ listed.getD j false = true) → listed.getD i false = true
 | 0, _, hw, hj => listed_of_waits hc hw hj
 | m + 1, j, hw, hj => by
  simp only [waitsT, Bool.or_eq_true, List.any_eq_true, Bool.and_eq_true] at hw
  rcases hw with hw | ⟨k, _, h1, h2⟩
  ·exact listed_of_waits hc hw hj
  ·exact listed_of_waitsT hc m k h2 (.inr (listed_of_waits hc h1 hj))
theorem not_ready_of_waits {i j : Nat} {listed : Array Bool} (hc : Closed md ops listed) (hw : waitsT md ops 3 j i = true) (hi : listed.getD i true = false) : j ∉ Region.ready md ops listed := by
 intro hj
 have h1 := listed_of_waitsT hc 3 j hw (.inl hj)
 rcases Nat.lt_or_ge i listed.size with h' | h'
 ·simp [h'] at hi h1; rw [hi] at h1; cases h1
 ·simp [Array.getElem?_eq_none h'] at h1
theorem wpAnyC_first {i : Nat} {oi : Oper} {v : Value} (hin : i < n) (hT : ∀ j, ¬ j < n → j < ops.size → waitsT md ops 3 j i = true) (hi : ops[i]? = some oi) (hsel : ∀ (j : Nat) (o : Oper) cs b, ops[j]? = some o → o.op ≠ .select cs b) :
  ∀ (fuel : Nat) (listed : Array Bool) (a : Act), Closed md ops listed →
   (∀ j oj, ops[j]? = some oj → j ≠ i → listed.getD j true = false → (∀ e ∈ oj.after, Region.binds md e = true → e.on ≠ i) → oi.apart ops oj = true) →
   i ∈ Region.ready md ops listed → YieldsIn P ops C oi v a →
   wpAnyC P md ops C Q n fuel (listed.setIfInBounds i true) (a.put oi.dst v) → wpAnyC P md ops C Q n (fuel + 1) listed a := by
 intro fuel
 induction fuel with
 | zero =>
  intro listed a _ _ hr hy H
  refine ⟨fun h => (by rw [h] at hr; cases hr), fun j hj => ?_⟩
  by_cases hji : j = i
  ·subst hji; exact ⟨fun _ => hy.qOp hi H, fun h => absurd hin h⟩
  ·have := ready_mono hj hji
   rw [H.1] at this
   cases this
 | succ fuel ih =>
  intro listed a hcl hfree hr hy H
  refine ⟨fun h => (by rw [h] at hr; cases hr), fun j hj => ?_⟩
  have hiun := (mem_ready.1 hr).1
  by_cases hji : j = i
  ·subst hji; exact ⟨fun _ => hy.qOp hi H, fun h => absurd hin h⟩
  ·obtain ⟨hjun, oj, hoj, hall⟩ := mem_ready.1 hj
   refine ⟨fun hjn => ?_, fun hjn => absurd hj (not_ready_of_waits hcl (hT j hjn (Array.getElem?_eq_some_iff.1 hoj).1) hiun)⟩
   have h1 := (H.2 j (ready_mono hj hji)).1 hjn
   have hnot : ∀ e ∈ oj.after, Region.binds md e = true → e.on ≠ i := fun e he hb heq => by
    have h1 := hall e he hb
    rw [heq] at h1
    rcases Nat.lt_or_ge i listed.size with h' | h'
    ·simp [h'] at hiun h1; rw [hiun] at h1; cases h1
    ·simp [Array.getElem?_eq_none h'] at h1
   have h2 := qOp_put hoj (hfree j oj hoj hji hjun hnot) (fun cs b => hsel i oi cs b hi) (fun cs b => hsel j oj cs b hoj) hy h1
   have hfree' : ∀ k ok, ops[k]? = some ok → k ≠ i → (listed.setIfInBounds j true).getD k true = false →
     (∀ e ∈ ok.after, Region.binds md e = true → e.on ≠ i) → oi.apart ops ok = true := fun k ok hk hki hun hno => by
    refine hfree k ok hk hki ?_ hno
    by_cases hjk : j = k
    ·subst hjk; exact hjun
    ·rw [getD_set_ne true hjk] at hun; exact hun
   refine qOp_mono (fun a' h3 => ih (listed.setIfInBounds j true) a' (hcl.set hj) hfree' (ready_mono hr (Ne.symm hji)) h3.1 ?_) h2
   rw [Array.setIfInBounds_comm _ _ hji]
   exact h3.2
theorem headB_nil {k : Nat} {listed : Array Bool} (h : headB md ops 0 k listed = true) (i : Nat) (hi : i < k) : listed.getD i true = true :=
 List.all_eq_true.1 h i (List.mem_range.2 hi)
theorem wpAnyC_lex (hs : Region.noSelect ops = true) (hT : tailB md ops n = true) (hC : ∃ w, C w) (t : Nat) : ∀ (l : List Oper) (k : Nat) (listed : Array Bool) (a : Act), Closed md ops listed → k + l.length = n → (∀ j, j < l.length → l[j]? = ops[k + j]?) →
  headB md ops l.length k listed = true → wpQuiet P ops C (fun a' => ∀ w', C w' → wpAny P md ops Q t (marks l.length k listed) a' w') l a → wpAnyC P md ops C Q n (l.length + t) listed a
 | [], k, listed, a, _, hk, _, hB, h => by
  have h' : ∀ w', C w' → wpAny P md ops Q t listed a w' := h
  have hk' : k = n := by simpa using hk
  subst hk'
  have hge : ∀ i ∈ Region.ready md ops listed, ¬ i < k := fun i hi hlt => by
   have := (mem_ready.1 hi).1
   rw [headB_nil hB i hlt] at this
   cases this
  obtain ⟨w0, hw0⟩ := hC
  cases t with
  | zero => exact ⟨(h' w0 hw0).1, fun w hw => (h' w hw).2⟩
  | succ t =>
   show wpAnyC P md ops C Q k (0 + (t + 1)) listed a
   rw [Nat.zero_add]
   exact ⟨fun h0 w hw => (h' w hw).1 h0, fun i hi => ⟨fun hlt => absurd hlt (hge i hi), fun _ w hw => (h' w hw).2 i hi⟩⟩
 | o :: l, k, listed, a, hcl, hk, hl, hB, h => by
  have h0 : ops[k]? = some o := by simpa using (hl 0 (by simp)).symm
  simp only [List.length_cons, headB, Bool.and_eq_true] at hB
  obtain ⟨⟨hr, hf⟩, hB'⟩ := hB
  have hkn : k < n := by simp at hk; omega
  have hst : qOp P ops C k (wpQuiet P ops C (fun a' => ∀ w', C w' → wpAny P md ops Q t (marks (o :: l).length k listed) a' w') l) a := by unfold qOp; simp only [h0]; exact h
  obtain ⟨v, hy, hK⟩ := yieldsIn_of_qOp h0 hst
  have hT' : ∀ j, ¬ j < n → j < ops.size → waitsT md ops 3 j k = true := fun j hj hjs => by
   have h1 := List.all_eq_true.1 hT j (List.mem_range.2 hjs)
   simp only [hj, decide_false, Bool.false_or] at h1
   exact List.all_eq_true.1 h1 k (List.mem_range.2 hkn)
  show wpAnyC P md ops C Q n (l.length + 1 + t) listed a
  rw [show l.length + 1 + t = (l.length + t) + 1 by omega]
  exact wpAnyC_first hkn hT' h0 (Region.noSelect_spec hs) (l.length + t) listed a hcl (Region.free_spec h0 hf) (by simpa using hr) hy
   (wpAnyC_lex hs hT hC t l (k + 1) _ _ (hcl.set (by simpa using hr)) (by simp at hk; omega) (fun j hj => by have := hl (j + 1) (by simp; omega); simpa [Nat.add_assoc, Nat.add_comm 1 j] using this) hB' hK)
theorem at_of_drop {l rest : List Oper} {i : Nat} {o : Oper} (h : l.drop i = o :: rest) : l.toArray[i]? = some o := by
 have : (l.drop i)[0]? = some o := by rw [h]; rfl
 simpa using this
theorem tail_one {l rest : List Oper} {i fuel : Nat} {o : Oper} {listed : Array Bool} {a : Act} {w : World} (hr : Region.ready md l.toArray listed = [i]) (ho : l.drop i = o :: rest)
  (h : ∀ K : Act → World → Prop, (∀ a w, wpAny P md l.toArray Q fuel (listed.setIfInBounds i true) a w → K a w) → if Region.wanted o (yielded l.toArray a.tmps) = true then o.wp P a w K Q else K (a.put o.dst undef) w) : wpAny P md l.toArray Q (fuel + 1) listed a w := by
 refine wpAny_all hr (by simp) fun j hj => ?_
 obtain rfl : j = i := by simpa using hj
 have h' := h _ (fun _ _ h => h)
 unfold wpOp
 simp only [at_of_drop ho]
 by_cases hw : Region.wanted o (yielded l.toArray a.tmps) = true
 ·rw [if_pos hw] at h' ⊢; exact .inl h'
 ·rw [if_neg hw] at h' ⊢; exact h'
theorem tail_two {l rest rest' : List Oper} {i j fuel : Nat} {o o' : Oper} {listed : Array Bool} {a : Act} {w : World} (hr : Region.ready md l.toArray listed = [i, j]) (ho : l.drop i = o :: rest) (ho' : l.drop j = o' :: rest')
  (h : ∀ K : Act → World → Prop, (∀ a w, wpAny P md l.toArray Q fuel (listed.setIfInBounds i true) a w → K a w) → if Region.wanted o (yielded l.toArray a.tmps) = true then o.wp P a w K Q else K (a.put o.dst undef) w)
  (h' : ∀ K : Act → World → Prop, (∀ a w, wpAny P md l.toArray Q fuel (listed.setIfInBounds j true) a w → K a w) → if Region.wanted o' (yielded l.toArray a.tmps) = true then o'.wp P a w K Q else K (a.put o'.dst undef) w) : wpAny P md l.toArray Q (fuel + 1) listed a w := by
 refine wpAny_all hr (by simp) fun k hk => ?_
 rcases (by simpa using hk : k = i ∨ k = j) with rfl | rfl
 ·have h' := h _ (fun _ _ h => h)
  unfold wpOp
  simp only [at_of_drop ho]
  by_cases hw : Region.wanted o (yielded l.toArray a.tmps) = true
  ·rw [if_pos hw] at h' ⊢; exact .inl h'
  ·rw [if_neg hw] at h' ⊢; exact h'
 ·have h' := h' _ (fun _ _ h => h)
  unfold wpOp
  simp only [at_of_drop ho']
  by_cases hw : Region.wanted o' (yielded l.toArray a.tmps) = true
  ·rw [if_pos hw] at h' ⊢; exact .inl h'
  ·rw [if_neg hw] at h' ⊢; exact h'
theorem wp_region_tail {id : Nat} {l : List Oper} {a : Act} {w : World} (n : Nat) (C : World → Prop) (hm : P.follows .mixedOrders = true) (hs : Region.noSelect l.toArray = true) (hn : (decide (n ≤ l.length)) = true)
  (hB : headB .any l.toArray n 0 (Array.replicate l.length false) = true) (hT : tailB .any l.toArray n = true) (hC : C { w with drawn := w.drawn + 1 })
  (h : wpQuiet P l.toArray C (fun a' => ∀ w', C w' → wpAny P .any l.toArray Q (l.length - n) (marks n 0 (Array.replicate l.length false)) a' w') (l.take n) a) : (Code.region id l.toArray true).wp P Q a w := by
 have hn' : n ≤ l.length := of_decide_eq_true hn
 have hlen : (l.take n).length = n := by simp [hn']
 refine wp_region_any hm ?_
 have := wpAny_of_C (n := n) _ _ _ _ hC (wpAnyC_lex (md := .any) (Q := Q) hs hT ⟨_, hC⟩ (l.length - n) (l.take n) 0 (Array.replicate l.length false) a (Closed.none _) (by simp [hn']) (fun j hj => by
  rw [hlen] at hj
  simp [List.getElem?_take, hj]) (by rw [hlen]; exact hB) (by rw [hlen]; exact h))
 rw [hlen, show n + (l.length - n) = l.length by omega] at this
 simpa using this
theorem wp_region_tail_more {id : Nat} {l : List Oper} {a : Act} {w : World} (n : Nat) (hm : P.follows .mixedOrders = true) (hs : Region.noSelect l.toArray = true) (hn : (decide (n ≤ l.length)) = true)
  (hB : headB .any l.toArray n 0 (Array.replicate l.length false) = true) (hT : tailB .any l.toArray n = true)
  (h : wpQuiet P l.toArray (fun w' => ∃ m, w' = more w m) (fun a' => ∀ w', (∃ m, w' = more w m) → wpAny P .any l.toArray Q (l.length - n) (marks n 0 (Array.replicate l.length false)) a' w') (l.take n) a) : (Code.region id l.toArray true).wp P Q a w :=
 wp_region_tail n (fun w' => ∃ m, w' = more w m) hm hs hn hB hT ⟨⟨w.drawn + 1, #[]⟩, by simp [more]⟩ h
theorem wp_region_tail_on {id : Nat} {l : List Oper} {a : Act} {w : World} {m0 : More} (n : Nat) (hm : P.follows .mixedOrders = true) (hs : Region.noSelect l.toArray = true) (hn : (decide (n ≤ l.length)) = true)
  (hB : headB .any l.toArray n 0 (Array.replicate l.length false) = true) (hT : tailB .any l.toArray n = true)
  (h : wpQuiet P l.toArray (fun w' => ∃ m, w' = more w m) (fun a' => ∀ w', (∃ m, w' = more w m) → wpAny P .any l.toArray Q (l.length - n) (marks n 0 (Array.replicate l.length false)) a' w') (l.take n) a) : (Code.region id l.toArray true).wp P Q a (more w m0) :=
 wp_region_tail n (fun w' => ∃ m, w' = more w m) hm hs hn hB hT ⟨⟨m0.d + 1, m0.os⟩, rfl⟩ h
end
end Go.Proofs.YtdoolhbmekahdaaGreatDoor
