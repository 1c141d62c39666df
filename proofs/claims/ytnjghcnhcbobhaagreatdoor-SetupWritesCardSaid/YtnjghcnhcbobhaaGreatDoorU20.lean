/- U20 -/
import Derived.Test.YtnjghcnhcbobhaaGreatDoorU19
import Derived.Test.YtnjghcnhcbobhaaGreatDoorB17
import Derived.Test.YtnjghcnhcbobhaaGreatDoorC16
import Derived.Test.YtnjghcnhcbobhaaGreatDoorL13
import Derived.Test.YtnjghcnhcbobhaaGreatDoorQ13
set_option linter.unusedVariables false
set_option linter.unusedSimpArgs false
set_option maxRecDepth 100000
set_option maxHeartbeats 4000000
namespace Go.Proofs.YtnjghcnhcbobhaaGreatDoor
open Go.RowKit Go.Extern
attribute [local go_sem high] zqe2
theorem zquw {W : World} {g : Nat} {y : Nat -> Int} (h : Full g (ints .u8 32 y) 43 W) : K32At W (some ⟨g, 0, none⟩) 1 (fun _ => y) := zqf4 (n := 1) h (by decide) (fun j hj i hi => by
 obtain rfl : j = 0 := by omega
 rw [Nat.zero_mul, Nat.zero_add])
def KSlF (B n : Nat) (u : Value) : Prop := ∃ oa c, u = .slice oa n c /\ ∀ ad, oa = some ad -> B <= ad.block
def UpAt (w : World) (v : Value) (s l : Int) (n : Nat) (P : Nat -> Nat -> Int) (t : Nat -> Int) : Prop := ∃ oa c, v = .agg (uvC s l (.slice oa n c) t) /\ K32At w oa n P
theorem UpAt.later {w w' : World} {v : Value} {s l : Int} {n : Nat} {P : Nat -> Nat -> Int} {t : Nat -> Int} (h : UpAt w v s l n P t) (hb : Below w.heap.size w w') : UpAt w' v s l n P t := by
 obtain ⟨oa, c, e, hp⟩ := h;exact ⟨oa, c, e, hp.later hb⟩
end Go.Proofs.YtnjghcnhcbobhaaGreatDoor
namespace Go.Proofs.YtnjghcnhcbobhaaGreatDoor
open Go.RowKit Go.Extern
end Go.Proofs.YtnjghcnhcbobhaaGreatDoor
namespace Go.Proofs.YtnjghcnhcbobhaaGreatDoor
open Go.RowKit Go.Extern
theorem zq2s {s l : Int} {b : Value} {t t' : Nat -> Int} (h : ∀ i, i < 32 -> t i = t' i) : uvC s l b t = uvC s l b t' := by
 unfold uvC;rw [zqbd h]
theorem UpAt.congr {w : World} {v : Value} {s l : Int} {n : Nat} {P P' : Nat -> Nat -> Int} {t t' : Nat -> Int} (h : UpAt w v s l n P t) (hP : ∀ j, j < n -> ∀ i, i < 32 -> P j i = P' j i) (ht : ∀ i, i < 32 -> t i = t' i) : UpAt w v s l n P' t' := by
 obtain ⟨oa, c, rfl, hp⟩ := h;exact ⟨oa, c, by rw [zq2s ht], hp.congr2 hP⟩
theorem UpAt.zero {w : World} {v : Value} {P P' : Nat -> Nat -> Int} {t : Nat -> Int} (h : UpAt w v 0 0 0 P t) : UpAt w v 0 0 0 P' t := by
 obtain ⟨oa, c, rfl, -⟩ := h;exact ⟨oa, c, rfl, .inl rfl⟩
end Go.Proofs.YtnjghcnhcbobhaaGreatDoor
namespace Go.Proofs.YtnjghcnhcbobhaaGreatDoor
open Go.RowKit Go.Extern
def qSt (S : ByteArray) (E : Int) : Nat -> ByteArray × Int
 | 0 => (S, E)
 | j + 1 => (tkS (tkS (qSt S E j).1 (qSt S E j).2 4) (tkE (qSt S E j).1 (qSt S E j).2 4) 4, tkE (tkS (qSt S E j).1 (qSt S E j).2 4) (tkE (qSt S E j).1 (qSt S E j).2 4) 4)
theorem SeAt.oth {g : Nat} {w w' : World} {oa : Option Addr} {n : Nat} {N I : Nat -> Int} (h : SeAt w oa n N I) (hO : Oth g w w') (hne : ∀ ad, oa = some ad -> ad.block ≠ g) : SeAt w' oa n N I := by
 obtain ⟨cs, hb⟩ := hO;exact (h.aside g hne cs).later (by rw [zq2]; exact hb)
def StAt (w : World) (v : Value) (n : Nat) (N I f : Nat -> Int) (m : Nat) (P : Nat -> Nat -> Int) (t : Nat -> Int) : Prop := ∃ oa ob c d, v = .agg (stC (.slice oa n c) f (.slice ob m d) t) /\ SeAt w oa n N I /\ K32At w ob m P
theorem StAt.later {w w' : World} {v : Value} {n m : Nat} {N I f t : Nat -> Int} {P : Nat -> Nat -> Int} (h : StAt w v n N I f m P t) (hb : Below w.heap.size w w') : StAt w' v n N I f m P t := by
 obtain ⟨oa, ob, c, d, e, h1, h2⟩ := h;exact ⟨oa, ob, c, d, e, h1.later hb, h2.later hb⟩
theorem StAt.zero (w : World) (N I : Nat -> Int) (P : Nat -> Nat -> Int) : StAt w (.agg (stC (.slice none 0 0) zqg (.slice none 0 0) zqg)) 0 N I zqg 0 P zqg := ⟨none, none, 0, 0, rfl, .inl rfl, .inl rfl⟩
end Go.Proofs.YtnjghcnhcbobhaaGreatDoor
namespace Go.Proofs.YtnjghcnhcbobhaaGreatDoor
open Go.RowKit Go.Extern
theorem zq0e {a b : Value} {f f' t t' : Nat -> Int} (hf : ∀ i, i < 32 -> f i = f' i) (ht : ∀ i, i < 32 -> t i = t' i) : stC a f b t = stC a f' b t' := by
 unfold stC;rw [zqbd hf, zqbd ht]
theorem StAt.congr {w : World} {v : Value} {n m : Nat} {N N' I I' f f' t t' : Nat -> Int} {P P' : Nat -> Nat -> Int} (h : StAt w v n N I f m P t) (hN : ∀ j, j < n -> N j = N' j) (hI : ∀ j, j < n -> I j = I' j) (hf : ∀ i, i < 32 -> f i = f' i) (hP : ∀ j, j < m -> ∀ i, i < 32 -> P j i = P' j i) (ht : ∀ i, i < 32 -> t i = t' i) : StAt w v n N' I' f' m P' t' := by
 obtain ⟨oa, ob, c, d, rfl, h1, h2⟩ := h;exact ⟨oa, ob, c, d, by rw [zq0e hf ht], h1.congr hN hI, h2.congr2 hP⟩
theorem StAt.none {w : World} {v : Value} {N N' I I' f t : Nat -> Int} {P P' : Nat -> Nat -> Int} (h : StAt w v 0 N I f 0 P t) : StAt w v 0 N' I' f 0 P' t := by
 obtain ⟨oa, ob, c, d, rfl, -, -⟩ := h;exact ⟨oa, ob, c, d, rfl, .inl rfl, .inl rfl⟩
def z2 (S : ByteArray) (n : Nat) : ByteArray × Int := qSt (S.extract 4 S.size) 0 n
def z3 (S : ByteArray) (n : Nat) : ByteArray × Int := (tkS (z2 S n).1 (z2 S n).2 32, tkE (z2 S n).1 (z2 S n).2 32)
def z4 (S : ByteArray) (n : Nat) : ByteArray × Int := (tkS (z3 S n).1 (z3 S n).2 (ksN (z3 S n).1 ((2 * n - 2 : Nat) : Int)), tkE (z3 S n).1 (z3 S n).2 (ksN (z3 S n).1 ((2 * n - 2 : Nat) : Int)))
def z5 (S : ByteArray) (n : Nat) : ByteArray × Int := (tkS (z4 S n).1 (z4 S n).2 32, tkE (z4 S n).1 (z4 S n).2 32)
end Go.Proofs.YtnjghcnhcbobhaaGreatDoor
namespace Go.Proofs.YtnjghcnhcbobhaaGreatDoor
open Go.RowKit Go.Extern
attribute [local go_sem high] zqe2
theorem zqil {n m : Nat} {N : Nat -> Int} (h : n < 2 \/ 1024 < n) : chkE n N m = 4 := if_pos h
theorem zqnu {n m : Nat} {N : Nat -> Int} (h : ¬ (n < 2 \/ 1024 < n)) (h2 : Twice N n) : chkE n N m = 15 := by
 unfold chkE;rw [if_neg h, if_pos (zqvu h2)]
theorem zqro {n m : Nat} {N : Nat -> Int} (h : ¬ (n < 2 \/ 1024 < n)) (h2 : ¬ Twice N n) (h3 : m ≠ 2 * n - 2) : chkE n N m = 6 := by
 unfold chkE;rw [if_neg h, zql1 h2, if_neg (by decide), if_pos h3]
theorem zrax {n m : Nat} {N : Nat -> Int} (h : ¬ (n < 2 \/ 1024 < n)) (h2 : ¬ Twice N n) (h3 : m = 2 * n - 2) : chkE n N m = 0 := by
 unfold chkE;rw [if_neg h, zql1 h2, if_neg (by decide), if_neg (fun h => h h3)]
theorem zqkd (oa ob : Option Addr) (n c m d : Nat) (f t : Nat -> Int) (N I : Nat -> Int) (w : World) (hn : n <= 100000) (hm : m <= 100000) (hP : SeAt w oa n N I) :
  Calls Tryz.prog 58 #[.agg (stC (.slice oa n c) f (.slice ob m d) t)] w (Rt w (.int .i64 (chkE n N m))) := by
 have HP : Hid (SeAt w oa n N I) := hP;clear hP
 go_enter Tryz.func58, Tryz.ntmps58
 by_cases hs1 : n < 2
 ·have i1 : (n : Int) < 2 := by omega
  rw [zqil (.inl hs1)];go_wp2;go_ret;exact ⟨rfl, Grew.alloc (Grew.refl _) _⟩
 have i1 : ¬ ((n : Int) < 2) := by omega
 by_cases hs2 : 1024 < n
 ·have i2 : (1024 : Int) < (n : Int) := by omega
  rw [zqil (.inr hs2)];go_wp2;go_ret;exact ⟨rfl, Grew.alloc (Grew.refl _) _⟩
 have i2 : ¬ ((1024 : Int) < (n : Int)) := by omega
 have hsz : ¬ (n < 2 \/ 1024 < n) := by omega
 go_wp2_with fail;have fb : zqd (w.alloc (.cells (stC (.slice oa n c) f (.slice ob m d) t) 53)) w.heap.size = some (.cells (stC (.slice oa n c) f (.slice ob m d) t) 53) := zqf _ _ _ rfl;have hG0 : Below w.heap.size w (w.alloc (.cells (stC (.slice oa n c) f (.slice ob m d) t) 53)) := Grew.alloc (Grew.refl _) _;have HP1 : Hid (SeAt (w.alloc (.cells (stC (.slice oa n c) f (.slice ob m d) t) 53)) oa n N I) := HP.out.later hG0;generalize w.alloc (.cells (stC (.slice oa n c) f (.slice ob m d) t) 53) = w1 at *;have lb0 := zqa fb
 go_loopw [18] (fun i wr => ∃ k : Nat, k <= n /\ i = .int .i64 k /\ (∃ m, wr = more w1 m) /\ Hid (∀ a, a < k -> ∀ b, b < a -> N a ≠ N b)) (fun i _ => n - (intOf i).toNat)
 case atStart => exact ⟨0, by omega, rfl, ⟨⟨w1.drawn, #[]⟩, by simp [more]⟩, hid1 fun a ha => by omega⟩
 case round =>
  obtain ⟨i, hi, rfl, ⟨m1, rfl⟩, HN⟩ := hrel;have fb1 := zqp m1 fb;have lb := zqa fb1
  by_cases hlt : i < n
  ·have hi1 : (i : Int) < (n : Int) := by omega
   have hi0 : (0 : Int) <= (i : Int) := by omega
   obtain ⟨ad, had, -⟩ := HP1.out.blk (by omega);subst had;go_wp2_with fail
   go_loopw [5] (fun k wr => ∃ j : Nat, j <= i /\ k = .int .i64 j /\ (∃ m, wr = more w1 m) /\ Hid (∀ b, b < j -> N i ≠ N b)) (fun k _ => i - (intOf k).toNat)
   case atStart => exact ⟨0, by omega, rfl, ⟨m1, rfl⟩, hid1 fun b hb => by omega⟩
   case round =>
    clear fb1 lb;obtain ⟨j, hj, rfl, ⟨m2, rfl⟩, HJ⟩ := hrel;have fb2 := zqp m2 fb;have lb := zqa fb2
    by_cases hlt2 : j < i
    ·have hj1 : (j : Int) < (i : Int) := by omega
     have hj2 : (j : Int) < (n : Int) := by omega
     have hj0 : (0 : Int) <= (j : Int) := by omega
     have l1 := fun q : More => (HP1.out.later (zqk w1 q)).name hlt;have l2 := fun q : More => (HP1.out.later (zqk w1 q)).name (show j < n by omega)
     by_cases he : N i = N j
     ·have heq : (N i == N j) = true := by rw [he]; simp
      have hD := hid1 (zqnu (m := m) hsz ⟨i, hlt, j, hlt2, he⟩);go_wp2_with fail
      ((first | (with_reducible refine zq5 zqc zqc ?_) | refine zqz zqc zqc ?_); (repeat (first | go_big_quiet_skip | (go_big_quiet_want; go_big_quiet_op; go_big_quiet_on))); refine wpQuiet_nil ?_; rintro _ ⟨mq, rfl⟩)
      go_wp2;go_ret;exact ⟨by first | rfl | (rw [hD.out]; rfl), Grew.more hG0 _⟩
     ·have heq : (N i == N j) = false := by simp [he]
      go_wp2_with fail
      ((first | (with_reducible refine zq5 zqc zqc ?_) | refine zqz zqc zqc ?_); (repeat (first | go_big_quiet_skip | (go_big_quiet_want; go_big_quiet_op; go_big_quiet_on))); refine wpQuiet_nil ?_; rintro _ ⟨mq, rfl⟩)
      clear l1 l2 fb2 lb;go_wp2
      go_roundw
      case rel => first | exact ⟨j + 1, by omega, by go_num, ⟨mq, rfl⟩, hid1 fun b hb => if e : b = j then e ▸ he else HJ.out b (by omega)⟩ | ((repeat' apply Exists.intro) <;> first | exact ⟨⟨j + 1, by omega, by go_num, ⟨mq, rfl⟩, hid1 fun b hb => if e : b = j then e ▸ he else HJ.out b (by omega)⟩, rfl⟩ | exact undef)
      case measure => (simp [intOf]; omega)
    ·obtain rfl : j = i := by omega
     have hj1 : ¬ ((j : Int) < (j : Int)) := by omega
     go_wp2
     go_roundw
     case rel => first | exact ⟨j + 1, by omega, by go_num, ⟨m2, rfl⟩, hid1 fun a ha b hb => if e : a = j then e ▸ HJ.out b (by omega) else HN.out a (by omega) b hb⟩ | ((repeat' apply Exists.intro) <;> first | exact ⟨⟨j + 1, by omega, by go_num, ⟨m2, rfl⟩, hid1 fun a ha b hb => if e : a = j then e ▸ HJ.out b (by omega) else HN.out a (by omega) b hb⟩, rfl⟩ | exact undef)
     case measure => (simp [intOf]; omega)
  ·obtain rfl : i = n := by omega
   have hi1 : ¬ ((i : Int) < (i : Int)) := by omega
   have hnd : ¬ Twice N i := fun ⟨a, ha, b, hb, e⟩ => HN.out a ha b hb e
   by_cases hm2 : (m : Int) = 2 * (i : Int) - 2
   ·have hD := hid1 (zrax (m := m) hsz hnd (by omega))
    have hE2 : ((m : Int) == 2 * (i : Int) - 2) = true := by simp [hm2]
    replace hm2 := hid1 hm2;go_wp2;go_ret;exact ⟨by first | rfl | (rw [hD.out]; rfl), Grew.more hG0 _⟩
   ·have hD := hid1 (zqro (m := m) hsz hnd (by omega))
    have hE2 : ((m : Int) == 2 * (i : Int) - 2) = false := by simp [hm2]
    go_wp2;go_ret;exact ⟨by first | rfl | (rw [hD.out]; rfl), Grew.more hG0 _⟩
def RowTy (w : World) (oa : Option Addr) (T : TypeId) : Prop := ∀ ad, oa = some ad -> ∃ cs fr, zqd w ad.block = some (.cells cs T fr)
theorem RowTy.later {w w' : World} {oa : Option Addr} {T : TypeId} (h : RowTy w oa T) (hb : Below w.heap.size w w') : RowTy w' oa T := fun ad e => by
 obtain ⟨cs, fr, hg⟩ := h ad e;exact ⟨cs, fr, zqb hb hg⟩
theorem RowTy.ne {w : World} {oa : Option Addr} {T T' : TypeId} {g : Nat} {cs : Array Value} {fr : Nat × Nat} (h : RowTy w oa T) (hg : zqd w g = some (.cells cs T' fr)) (hne : T' ≠ T) : ∀ ad, oa = some ad -> ad.block ≠ g := fun ad e eb => by
 obtain ⟨cs', fr', h'⟩ := h ad e;rw [eb, hg] at h'
 cases h'
 exact hne rfl
theorem zq2c {w : World} {base n : Nat} {v : Value} {xs : List Value} {T : TypeId} {s : Nat} (h : w.ownsRow base T s v n xs) {oa : Option Addr} {m c : Nat} (e : v = .slice oa m c) : RowTy w oa T := fun ad e1 => by
 subst e e1
 rcases h.2 with ⟨h1, _⟩ | ⟨g, cap, cur, h1, _, hg, _⟩
 ·cases h1
 ·cases h1
  exact ⟨cur, _, hg⟩
def KTAt (n : Nat) (F : Nat -> Nat -> Int) (u : Value) (w : World) : Prop := ∀ oa c, u = .slice oa n c -> K32At w oa n F /\ RowTy w oa 43
theorem zqo8 (n : Nat) (F : Nat -> Nat -> Int) (u : Value) : Stab (KTAt n F u) none := fun w w' h e oa c hu => ⟨(h oa c hu).1.later e, (h oa c hu).2.later e⟩
theorem zqjm (n : Nat) (F : Nat -> Nat -> Int) (u : Value) (g' : Nat) : Stab (KTAt n F u) (some (g', 53)) := fun w w' h ⟨old, cs', t', h1, ⟨_, h2⟩, e⟩ oa c hu => by
 subst e;subst h2;obtain ⟨h3, h4⟩ := h oa c hu;refine ⟨h3.aside h1 (h4.ne h1 (by decide)) _, fun ad e => ?_⟩;obtain ⟨cs, fr, hg⟩ := h4 ad e;exact ⟨cs, fr, zqn _ _ hg (h4.ne h1 (by decide) ad e)⟩
theorem zqv2 {P : Prop} (h : P := by first | exact zq8 | ((repeat (refine zqfv ⟨by (first | exact zqca _ _ _ _ | exact zqjm _ _ _ _ | exact zqo8 _ _ _ | exact zqdr _ _ _ | exact zqci _ _ _), by (first | exact zqca _ _ _ _ | exact zqjm _ _ _ _ | exact zqo8 _ _ _ | exact zqdr _ _ _ | exact zqci _ _ _)⟩ ?_)); exact zqbp (by (first | exact zqca _ _ _ _ | exact zqjm _ _ _ _ | exact zqo8 _ _ _ | exact zqdr _ _ _ | exact zqci _ _ _)))) : P := h
theorem Oth.put {g : Nat} {w w' : World} (h : Oth g w w') (cs : Array Value) : Oth g w (w'.setRow g cs) := by
 obtain ⟨c1, h1⟩ := h;have h2 := zqkf h1 g cs;rw [setRow_setRow] at h2;exact ⟨cs, h2⟩
theorem K32At.oth {w w' : World} {oa : Option Addr} {n g : Nat} {F : Nat -> Nat -> Int} {cs : Array Value} {t : TypeId} {fr : Nat × Nat} (h : K32At w oa n F) (hO : Oth g w w') (hg : zqd w g = some (.cells cs t fr)) (hne : ∀ ad, oa = some ad -> ad.block ≠ g) : K32At w' oa n F := by
 obtain ⟨c1, h1⟩ := hO;exact (h.aside hg hne c1).later (by rw [zq2]; exact h1)
theorem zqsz (oa : Option Addr) (n c : Nat) (F : Nat -> Nat -> Int) (w : World) (hn : n <= 1000) (hK : K32At w oa n F) :
  Calls Tryz.prog 56 #[.slice oa n c] w fun e w' => ∃ oa2 c2, e = .returned (.slice oa2 n c2) /\ K32At w' oa2 n F /\ ((∀ ad, oa2 = some ad -> w.heap.size <= ad.block) /\ RowTy w' oa2 43) /\ Below w.heap.size w w' := by
 have HK : Hid (K32At w oa n F) := hK;clear hK
 go_enter Tryz.func56, Tryz.ntmps56
 go_wp2_with fail
 go_loopw [8, 3, 5] (fun i v _ wr => ∃ (j : Nat) (v0 : Value), v0 = v /\ j <= n /\ i = .int .i64 j /\ Below w.heap.size w wr /\ Hid (wr.ownsRow w.heap.size 43 32 v0 j (k32L F j))) (fun i _ _ _ => n - (intOf i).toNat)
 case atStart => exact ⟨0, _, rfl, by omega, rfl, Grew.refl _, World.ownsRow_nil _ _ _ _⟩
 case round =>
  obtain ⟨j, v0, rfl, hj, rfl, hM, OWN⟩ := hrel
  by_cases hlt : j < n
  ·obtain ⟨ad, rfl⟩ := HK.out.addr (by omega)
   have l1 := HK.out.loadK hlt hM;have hi1 : (j : Int) < (n : Int) := by omega
   have hi0 : (0 : Int) <= (j : Int) := by omega
   have hsz := hM.size;obtain ⟨g3, c3, w3, hr3, own3, hb3, -⟩ := zqno w ((wr.alloc (.cells (ints .u8 32 (F j)) 44)).alloc (.cells (ints .u8 32 (F j)) 43)) w.heap.size _ j F (wr.alloc (.cells (ints .u8 32 (F j)) 44)).heap.size _ _ (World.ownsRow.alloc (World.ownsRow.alloc OWN.out _) _) (by omega) (zqf _ _ _ rfl) (Grew.alloc (Grew.alloc hM _) _) (Nat.le_refl _) (by simp; omega);have OWN3 : Hid (w3.ownsRow w.heap.size 43 32 (.slice (some ⟨g3, 0, none⟩) (j + 1) c3) (j + 1) (k32L F (j + 1))) := own3;have hx : (wr.alloc (.cells (ints .u8 32 (F j)) 44)).heap.size = wr.heap.size + 1 := by simp
   rw [hx] at hr3;clear own3 OWN;go_wp2
   go_roundw
   case rel => exact ⟨j + 1, _, rfl, by omega, by go_num, hb3, OWN3⟩
   case measure => (simp [intOf] <;> omega)
  ·obtain rfl : j = n := by omega
   obtain ⟨oa2, c2, rfl, -, hK2⟩ := zqey OWN.out;have HK2 : Hid (K32At wr oa2 j F) := hK2;have HB2 : Hid ((∀ ad, oa2 = some ad -> w.heap.size <= ad.block) /\ RowTy wr oa2 43) := ⟨zqtq OWN.out rfl, zq2c OWN.out rfl⟩
   clear OWN hK2;go_wp2;go_ret;exact ⟨oa2, c2, rfl, HK2, HB2.out, hM⟩
theorem zqpd (oa ob : Option Addr) (n c m d : Nat) (f t : Nat -> Int) (N I : Nat -> Int) (P : Nat -> Nat -> Int) (w : World) (hn : n <= 2000) (hm : m <= 1000) (hP : SeAt w oa n N I) (hK : K32At w ob m P) :
  Calls Tryz.prog 15 #[.agg (stC (.slice oa n c) f (.slice ob m d) t)] w fun e w' => ∃ v, e = .returned (v) /\ StAt w' v n N I f m P t /\ Below w.heap.size w w' := by
 have HP : Hid (SeAt w oa n N I) := hP;have HK : Hid (K32At w ob m P) := hK;clear hP hK
 go_enter Tryz.func15, Tryz.ntmps15
 go_wp2_with fail;have fb : zqd ((w.alloc (.cells (stC (.slice oa n c) f (.slice ob m d) t) 47)).alloc (.cells (stC (.slice none 0 0) zqg (.slice none 0 0) zqg) 53)) w.heap.size = some (.cells (stC (.slice oa n c) f (.slice ob m d) t) 47) := zqi _ (zqf _ _ _ rfl);have fr : zqd ((w.alloc (.cells (stC (.slice oa n c) f (.slice ob m d) t) 47)).alloc (.cells (stC (.slice none 0 0) zqg (.slice none 0 0) zqg) 53)) (w.heap.size + 1) = some (.cells (stC (.slice none 0 0) zqg (.slice none 0 0) zqg) 53) := zqf _ _ _ (by simp);have hG : Below w.heap.size w ((w.alloc (.cells (stC (.slice oa n c) f (.slice ob m d) t) 47)).alloc (.cells (stC (.slice none 0 0) zqg (.slice none 0 0) zqg) 53)) := Grew.alloc (Grew.alloc (Grew.refl _) _) _
 generalize (w.alloc (.cells (stC (.slice oa n c) f (.slice ob m d) t) 47)).alloc (.cells (stC (.slice none 0 0) zqg (.slice none 0 0) zqg) 53) = w1 at *;have hgr : w.heap.size <= w.heap.size + 1 := by omega
 have hgn : w.heap.size < w.heap.size + 1 := by omega
 generalize w.heap.size + 1 = gr at *;have lb := zqa fb;have lr := zqa fr;have cK := fun (W : World) (hb : Below w1.heap.size w1 W) => zqsz ob m d P W hm ((HK.out.later hG).later hb);refine zqej (fun k => k == 4) (fun k => match k with | 4 => fun u => KSlF w1.heap.size m u | _ => fun _ => True) (fun k => match k with | 4 => fun u w => KTAt m P u w | _ => fun _ _ => True) (fun k => match k with | 4 => .slice none m 0 | _ => undef) (fun i hi => ?_) zqc zqc ?_
 ·simp only [Bool.or_eq_true, beq_iff_eq] at hi
  subst hi;exact ⟨none, 0, rfl, fun _ h => by cases h⟩
 iterate 4 (first | refine zqv rfl ?_ | (refine zqo rfl ?_; apply Exists.intro))
 refine zqo rfl ⟨undef, ?_⟩
 iterate 5 (first | refine zqv rfl ?_ | (refine zqo rfl ?_; apply Exists.intro))
 refine zqbw ?_
 intro γ gv hsv hinj hbase;obtain ⟨ok, kk, e1, hob⟩ := hsv 4 rfl
 (repeat (first | (refine zqy rfl ?_; ((first | go_big_quiet_skip | (go_big_quiet_want; go_big_quiet_op; go_big_quiet_on)); refine wpQuiet_nil ?_)) | ((first | refine zql rfl (fun _ => rfl) ?_ | (apply zq9; (focus rfl); (focus rfl); (focus rfl); (focus (intro W hC hF; (skip); go_big_quiet_want; go_big_quiet_op; (first | go_big_quiet_on | (apply Exists.intro; refine ⟨fun _ => ?_, ?_⟩; (focus ((fail))); go_big_quiet_on)); exact wpQuiet_nil rfl)); (focus (first | exact fun _ => ⟨rfl, rfl⟩ | exact fun h => absurd h (by decide))))); ((first | go_big_quiet_skip | (go_big_quiet_want; go_big_quiet_op; go_big_quiet_on)); refine wpQuiet_nil ?_)) | refine zqm rfl (fun _ => rfl) ?_))
 refine zqan #[.slice ob m d] (enters_of Tryz.func56 zqc rfl) rfl e1 rfl rfl rfl rfl (zqbp (zqo8 _ _ _)) (by first | kernel_rfl | simp [go_sem]) ?_ ?_
 ·intro W hC hF
  obtain ⟨mm, rfl⟩ := hC;refine (cK _ (zqk w1 mm)).mono ?_
  rintro e w9 ⟨ob9, cb9, rfl, hK9, hB9, hb9⟩;exact ⟨_, rfl, ⟨_, _, rfl, fun ad e => Nat.le_trans (zqk w1 mm).size (hB9.1 ad e)⟩, (fun oa2 c2 e2 => by cases e2; exact ⟨hK9, hB9.2⟩), hb9⟩
 ((first | go_big_quiet_skip | (go_big_quiet_want; go_big_quiet_op; go_big_quiet_on)); refine wpQuiet_nil ?_)
 (repeat (first | (refine zqy rfl ?_; ((first | go_big_quiet_skip | (go_big_quiet_want; go_big_quiet_op; go_big_quiet_on)); refine wpQuiet_nil ?_)) | ((first | refine zql rfl (fun _ => rfl) ?_ | ((try simp only [Nat.zero_add, Nat.reduceAdd]); apply zqbn _ _ zq1; (focus rfl); (focus (intro W; (first | exact zqb9 _ | exact zqbk _ | exact zero_num _ | exact zqbl _ | exact zqa9 _ | exact zqa5 _ | exact zq3i _))); (focus (first | exact zqa8 _ _ _ | exact zqec _ _ _ _ | exact zqbm _ _ | rfl)); (focus (exact zqv2))) | (apply zq9; (focus rfl); (focus rfl); (focus rfl); (focus (intro W hC hF; (skip); go_big_quiet_want; go_big_quiet_op; (first | go_big_quiet_on | (apply Exists.intro; refine ⟨fun _ => ?_, ?_⟩; (focus ((fail))); go_big_quiet_on)); exact wpQuiet_nil rfl)); (focus (first | exact fun _ => ⟨rfl, rfl⟩ | exact fun h => absurd h (by decide))))); ((first | go_big_quiet_skip | (go_big_quiet_want; go_big_quiet_op; go_big_quiet_on)); refine wpQuiet_nil ?_)) | refine zqm rfl (fun _ => rfl) ?_ | ((try simp only [Nat.zero_add, Nat.reduceAdd]); apply zqbo (zqa7 (hbase _)); (focus rfl); (focus rfl); (focus rfl); (focus (first | exact zqag _ | exact zqah _ _ | exact zqaa _ | rfl)); rotate_left 3; (focus (exact zqdv)); rotate_right 3; (focus kernel_rfl); (focus (first | exact zqj _ _ _ | exact zqec _ _ _ _ | rfl)); (focus (first | exact zqa3 _ _ _ | exact zq5v _ _ _ _ _ _ _ _ | exact zqbr _ _ _ _ | kernel_rfl)); (focus (decide +kernel)); (focus (exact zqv2)))))
 (refine zqb7 ?_; rintro _ ⟨mq, rfl⟩ hF; simp only [List.forall_mem_cons] at hF; obtain ⟨fo, -, f4, -⟩ := hF)
 obtain ⟨hK4, hY4⟩ := f4 _ _ rfl;replace hG := Grew.more hG mq;replace fr := zqp mq fr;replace fb := zqp mq fb;replace fo : zqd (more w1 mq) (γ 8) = some (.cells (stC (.slice none 0 0) f (.slice ok m kk) t) 53) := fo;have hgo : w1.heap.size <= γ 8 := hbase 8;replace hob : Hid (∀ ad, ok = some ad -> ad.block ≠ gr) := fun ad e => by have := hob ad e; omega
 have hW1 : w1.heap.size <= (more w1 mq).heap.size := (zqk w1 mq).size;clear f4 hinj hbase hsv e1 lb cK;have hgg : gr < γ 8 := by omega
 clear hW1 hgo lr;generalize γ 8 = go at *;generalize more w1 mq = w2 at *;clear γ gv;have hKo : Hid (∀ ad, ok = some ad -> ad.block ≠ go) := hY4.ne fo (by decide);have HK4 := hid1 hK4;have lo := zqa fo;have fo0 := fo;have hO : Hid (Oth go w2 w2) := Oth.refl fo;have lb := zqa fb;clear hK4 hY4;go_wp2_with fail
 go_loopw [17] (fun i wr => ∃ (k : Nat) (v0 : Value), k <= n /\ i = .int .i64 k /\ Below w.heap.size w wr /\ Hid (Oth go w2 wr) /\ zqd wr gr = some (.cells (stC (.slice none 0 0) zqg (.slice none 0 0) zqg) 53) /\ zqd wr go = some (.cells (stC v0 f (.slice ok m kk) t) 53) /\ w2.heap.size <= wr.heap.size /\ Hid (wr.ownsRow w2.heap.size 119 2 v0 k (seL N I k))) (fun i _ => n - (intOf i).toNat)
 case atStart => exact ⟨0, _, by omega, rfl, hG, hO, fr, fo, Nat.le_refl _, World.ownsRow_nil _ _ _ _⟩
 case round =>
  clear hG fr fo fb hO lb;obtain ⟨k, v0, hk, rfl, hG, HO, fr, fo, hsz, OWN⟩ := hrel;have lr2 := zqa fr;have lo2 := zqa fo
  by_cases hlt : k < n
  ·have hi1 : (k : Int) < (n : Int) := by omega
   have hi0 : (0 : Int) <= (k : Int) := by omega
   obtain ⟨ad, rfl, -⟩ := HP.out.blk (by omega);have hl := (HP.out.later hG).load_se hlt;have hb2 : Below wr.heap.size wr ((wr.alloc (.cells #[.int .u32 (N k), .int .u32 (I k)] 63)).alloc (.cells #[.int .u32 (N k), .int .u32 (I k)] 119)) := Grew.alloc (Grew.alloc (Grew.refl _) _) _;have OWN1 := World.ownsRow.alloc (World.ownsRow.alloc OWN.out (.cells #[.int .u32 (N k), .int .u32 (I k)] 63)) (.cells #[.int .u32 (N k), .int .u32 (I k)] 119);have hbk := zrdx OWN1;have hszB : w2.heap.size <= ((wr.alloc (.cells #[.int .u32 (N k), .int .u32 (I k)] 63)).alloc (.cells #[.int .u32 (N k), .int .u32 (I k)] 119)).heap.size := Nat.le_trans hsz hb2.size
   obtain ⟨g3, c3, w7, hr3, own7, hgr7⟩ := zqt0 ((wr.alloc (.cells #[.int .u32 (N k), .int .u32 (I k)] 63)).alloc (.cells #[.int .u32 (N k), .int .u32 (I k)] 119)) w2.heap.size _ k N I (wr.heap.size + 1) _ _ OWN1 (by omega) (zqf _ _ _ (by simp)) hszB;have hG7 := (Grew.alloc (Grew.alloc hG (.cells #[.int .u32 (N k), .int .u32 (I k)] 63)) (.cells #[.int .u32 (N k), .int .u32 (I k)] 119)).grown hgr7 (by have := hG.size; have := hb2.size; omega) (fun r e => by have := (hbk r e).1; have := hG.size; omega);have HO7 := (HO.out.later hb2).grown hgr7 (fun r e => (hbk r e).1)
   have fr7 : zqd w7 gr = some (.cells (stC (.slice none 0 0) zqg (.slice none 0 0) zqg) 53) := (hgr7.block _ (by have := hb2.size; omega) (fun e => by have := (hbk _ e.symm).1; omega)).trans (zqi (.cells #[.int .u32 (N k), .int .u32 (I k)] 119) (zqi (.cells #[.int .u32 (N k), .int .u32 (I k)] 63) fr));have fo7 : zqd w7 go = _ := (hgr7.block _ (by have := hb2.size; omega) (fun e => by have := (hbk _ e.symm).1; omega)).trans (zqi (.cells #[.int .u32 (N k), .int .u32 (I k)] 119) (zqi (.cells #[.int .u32 (N k), .int .u32 (I k)] 63) fo));have lo7 := zqa fo7;have OWN7 : Hid ((w7.setRow go (stC (.slice (some ⟨g3, 0, none⟩) (k + 1) c3) f (.slice ok m kk) t)).ownsRow w2.heap.size 119 2 (.slice (some ⟨g3, 0, none⟩) (k + 1) c3) (k + 1) (seL N I (k + 1))) := zqj3 own7 lo
   have hG8 := Grew.setRow hG7 go (stC (.slice (some ⟨g3, 0, none⟩) (k + 1) c3) f (.slice ok m kk) t) (by omega);have HO8 := hid1 (HO7.put (stC (.slice (some ⟨g3, 0, none⟩) (k + 1) c3) f (.slice ok m kk) t));have fr8 := zqn go (stC (.slice (some ⟨g3, 0, none⟩) (k + 1) c3) f (.slice ok m kk) t) fr7 (by omega);have fo8 := zqs (stC (.slice (some ⟨g3, 0, none⟩) (k + 1) c3) f (.slice ok m kk) t) fo7;have hsz8 : w2.heap.size <= (w7.setRow go (stC (.slice (some ⟨g3, 0, none⟩) (k + 1) c3) f (.slice ok m kk) t)).heap.size := by rw [zq2]; exact Nat.le_trans hszB hgr7.size
   clear own7 hgr7 OWN OWN1 hszB hbk hb2 HO7 hG7;generalize N k = x at *;generalize I k = y at *;go_wp2
   go_roundw
   case rel => first | exact ⟨k + 1, _, by omega, by go_num, hG8, HO8, fr8, fo8, hsz8, OWN7⟩ | ((repeat' apply Exists.intro) <;> first | exact ⟨⟨k + 1, _, by omega, by go_num, hG8, HO8, fr8, fo8, hsz8, OWN7⟩, rfl⟩ | exact undef)
   case measure => (simp [intOf]; omega)
  ·obtain rfl : k = n := by omega
   have hi1 : ¬ ((k : Int) < (k : Int)) := by omega
   obtain ⟨oa2, c2, rfl, -, hP2, hB2⟩ := zqzp OWN.out;have HP2 : Hid (SeAt (wr.setRow gr (stC (.slice oa2 k c2) f (.slice ok m kk) t)) oa2 k N I) := hP2.aside _ (fun ad e => by have := (hB2 ad e).1; omega) _;have HK2 := hid1 ((HK4.out.oth HO.out fo0 hKo.out).aside fr hob.out (stC (.slice oa2 k c2) f (.slice ok m kk) t));clear OWN hP2 hB2 HO;go_wp2;refine zqap rfl _ 53 _ (0, 0) _ rfl (zqs _ fr) Tryz.underlying53 rfl (by rw [zqec]; kernel_rfl) rfl ?_
   first | exact ⟨_, rfl, ⟨_, _, _, _, rfl, HP2.out, HK2.out⟩, Grew.setRow hG _ _ hgr⟩ | exact ⟨⟨_, rfl⟩, ⟨_, _, _, _, rfl, HP2.out, HK2.out⟩, Grew.setRow hG _ _ hgr⟩
end Go.Proofs.YtnjghcnhcbobhaaGreatDoor
namespace Go.Proofs.YtnjghcnhcbobhaaGreatDoor
open Go.RowKit Go.Extern
attribute [local go_sem high] zqe2
theorem SeAt.same {B : Nat} {w w' : World} {oa : Option Addr} {n : Nat} {N I : Nat -> Int} (h : SeAt w oa n N I) (hk : ∀ m o, m < B -> zqd w m = some o -> zqd w' m = some o) (hB : ∀ ad, oa = some ad -> ad.block < B) : SeAt w' oa n N I := by
 rcases h with h | ⟨ad, ho, hl, hc⟩
 ·exact .inl h
 ·obtain ⟨o, hob⟩ : ∃ o, zqd w ad.block = some o := by unfold zqd; exact ⟨_, Array.getElem?_eq_getElem hl⟩
  have h2 := hk _ _ (hB ad ho) hob;refine .inr ⟨ad, ho, by unfold zqd at h2; exact (Array.getElem?_eq_some_iff.1 h2).1, fun j hj i hi => ?_⟩;have hcell : ∀ a : Addr, a.block = ad.block -> w'.cell? a = w.cell? a := fun a ha => by
   unfold World.cell?;unfold zqd at hob h2;rw [ha, hob, h2]
  rw [hcell _ (by rw [zqfc, zqfc])];exact hc j hj i hi
end Go.Proofs.YtnjghcnhcbobhaaGreatDoor
namespace Go.Proofs.YtnjghcnhcbobhaaGreatDoor
open Go.RowKit Go.Extern
end Go.Proofs.YtnjghcnhcbobhaaGreatDoor
namespace Go.Proofs.YtnjghcnhcbobhaaGreatDoor
open Go.ChangeShapes Go.WideShapes Go.ChangeAt Go.RowKit
theorem one_of {α : Type} (l : List α) (k : Nat) (h : k < l.length) : (l.drop k).take 1 = [l[k]] := by
 rw [List.drop_eq_getElem_cons h]
 rfl
theorem zque {H : Type} {enc : TypeId × Value -> H} {W : World} {base : Nat} {sp : Nat -> Bool} {held : Bool} {fuel : Nat} {u : Value} {x : DataW H × List MemPlace}
  (h : DataW.trod enc Tryz.prog W base sp held fuel 45 [u] = some x) : ∃ (oa : Option Addr) (n c : Nat) (F : Nat -> Nat -> Int), u = .slice oa n c /\ (∀ i, i < n -> Bytes 32 (F i)) /\ K32At W oa n F := by
 obtain ⟨hsl, hd⟩ := zqic Tryz.underlying45 h;obtain ⟨oa, n, c, F, hv, hm, hw, hF⟩ := zq14 (n := 32) (k := .u8) Tryz.underlying45 Tryz.underlying44 Tryz.underlying5 zqc zqc (Nat.zero_lt_succ 31) hsl hd;refine ⟨oa, n, c, F, hv, fun i hi j hj => bounds_u8 (hw i hi j hj), ?_⟩
 rcases hF with h | ⟨a, ho, hc⟩
 ·exact .inl h
 ·refine .inr ⟨a, ho, fun w' hb j hj i hi => ?_⟩
  have h1 := hc j hj i hi;rw [hb.cell (cell_lt h1)];exact h1
end Go.Proofs.YtnjghcnhcbobhaaGreatDoor
namespace Go.Proofs.YtnjghcnhcbobhaaGreatDoor
open Go.ChangeShapes Go.WideShapes Go.ChangeAt Go.RowKit
theorem zrjs (a : Value) (f : Nat -> Int) (b : Value) (t : Nat -> Int) (q : Nat) (h : q < 32) : (stC a f b t)[1 + q]? = some (.int .u8 (f q)) := by
 unfold stC;rw [Array.append_assoc, Array.append_assoc, Array.getElem?_append_right (by simp), show 1 + q - (#[a] : Array Value).size = q by simp, Array.getElem?_append_left (by rw [zqj]; exact h), zqao _ _ _ _ h]
theorem zrgy (a : Value) (f : Nat -> Int) (b : Value) (t : Nat -> Int) (q : Nat) (h : q < 32) : (stC a f b t)[34 + q]? = some (.int .u8 (t q)) := by
 unfold stC;have hs : ((#[a] : Array Value) ++ ints .u8 32 f ++ (#[b] : Array Value)).size = 34 := by simp [zqj]
 rw [Array.getElem?_append_right (by omega), hs, show 34 + q - 34 = q by omega, zqao _ _ _ _ h]
theorem zqpl {H : Type} {enc : TypeId × Value -> H} {W : World} {base : Nat} {sp : Nat -> Bool} {held : Bool} {fuel : Nat} {u : Value} {x : DataW H × List MemPlace}
  (h : DataW.trod enc Tryz.prog W base sp held fuel 42 [u] = some x) : ∃ (oa : Option Addr) (n c : Nat) (N I : Nat -> Int), u = .slice oa n c /\ (∀ j, j < n -> 0 <= N j /\ N j < 4294967296) /\ (∀ j, j < n -> 0 <= I j /\ I j < 4294967296) /\ SeAt W oa n N I := by
 obtain ⟨hsl, hd⟩ := zqic Tryz.underlying42 h;obtain ⟨oa, m, c, rfl, hm, hF⟩ := zqyg Tryz.underlying42 hsl hd;have c3 : Tryz.prog.cellsOf 63 = 2 := by kernel_rfl
 have c0 : Tryz.prog.cellsOf 22 = 1 := by kernel_rfl
 rw [c3] at hF;have key : m = 0 \/ ∃ a : Addr, oa = some a /\ ∀ i, i < m -> ∃ z y : Int, ((0 <= z /\ z < 4294967296) /\ (0 <= y /\ y < 4294967296)) /\ ∀ j, j < 2 -> W.cell? (a.add (i * 2 + j)) = (#[Value.int .u32 z, Value.int .u32 y] : Array Value)[j]? := by
  rcases hF with h | ⟨a, ho, hc⟩
  ·exact .inl h
  ·refine .inr ⟨a, ho, fun i hi => ?_⟩
   obtain ⟨cs, m', y, hl, hat, hy⟩ := hc i hi;obtain ⟨xs, n', _, _, _, hlen, hf⟩ := DataW.trod_struct Tryz.underlying63 hy;obtain ⟨y0, y1, rfl⟩ : ∃ y0 y1, xs = [y0, y1] := by
    match xs, hlen with
    | [y0, y1], _ => exact ⟨y0, y1, rfl⟩
   have F0 : DataW.trod enc Tryz.prog W base sp held n' 22 ((cs.drop 0).take (Tryz.prog.cellsOf 22)) = some y0 := hf 0 _ rfl;have F1 : DataW.trod enc Tryz.prog W base sp held n' 22 ((cs.drop 1).take (Tryz.prog.cellsOf 22)) = some y1 := hf 1 _ rfl;rw [c0] at F0 F1
   match cs, hl with
   | [u0, u1], _ =>
    obtain ⟨z, ez, -, wz⟩ := DataW.trod_int Tryz.underlying22 F0;obtain ⟨q, eq, -, wq⟩ := DataW.trod_int Tryz.underlying22 F1;have ez' : u0 = .int .u32 z := (List.cons.inj ez).1;have eq' : u1 = .int .u32 q := (List.cons.inj eq).1;subst ez';subst eq';refine ⟨z, q, ⟨zq8q wz, zq8q wq⟩, fun j hj => (hat j hj).trans ?_⟩
    rcases (by omega : j = 0 \/ j = 1) with rfl | rfl <;> rfl
 rcases key with rfl | ⟨a, rfl, hc⟩
 ·exact ⟨oa, 0, c, fun _ => 0, fun _ => 0, rfl, fun j hj => by omega, fun j hj => by omega, .inl rfl⟩
 ·refine ⟨some a, m, c, fun i => if h : i < m then Classical.choose (hc i h) else 0, fun i => if h : i < m then Classical.choose (Classical.choose_spec (hc i h)) else 0, rfl, fun j hj => ?_, fun j hj => ?_, ?_⟩
  ·simp only [hj, dif_pos]
   exact (Classical.choose_spec (Classical.choose_spec (hc j hj))).1.1
  ·simp only [hj, dif_pos]
   exact (Classical.choose_spec (Classical.choose_spec (hc j hj))).1.2
  ·rcases Nat.eq_zero_or_pos m with rfl | hp
   ·exact .inl rfl
   refine .inr ⟨a, rfl, ?_, fun j hj i hi => ?_⟩
   ·have h0 := (Classical.choose_spec (Classical.choose_spec (hc 0 hp))).2 0 (by decide)
    have h1 := cell_lt (h0.trans rfl);rwa [zqfc] at h1
   ·simp only [hj, dif_pos]
    rw [Go.Deep.add_add];exact (Classical.choose_spec (Classical.choose_spec (hc j hj))).2 i hi
theorem zq44 {H : Type} {enc : TypeId × Value -> H} {W : World} {base : Nat} {sp : Nat -> Bool} {held : Bool} {r : Reach} {b0 : Nat} {v : Value} {d : DataW H} {ps : List MemPlace}
  (hval : Value.okWide Tryz.prog W r b0 47 v) (hd : DataW.Trod enc Tryz.prog W base sp held 47 v d ps) :
  ∃ (oa ob : Option Addr) (n c m d' : Nat) (f t N I : Nat -> Int) (P : Nat -> Nat -> Int), v = .agg (stC (.slice oa n c) f (.slice ob m d') t) /\ (∀ j, j < n -> 0 <= N j /\ N j < 4294967296) /\ (∀ j, j < n -> 0 <= I j /\ I j < 4294967296) /\ (∀ j, j < m -> Bytes 32 (P j)) /\ Bytes 32 f /\ Bytes 32 t /\ SeAt W oa n N I /\ K32At W ob m P := by
 unfold Value.okWide at hval;rw [Tryz.underlying47] at hval;obtain ⟨cs, rfl, hsz, _⟩ := hval;rw [show Tryz.prog.cellsOf 47 = 66 by kernel_rfl] at hsz;obtain ⟨fuel, hf⟩ := hd;have hlen : cs.toList.length = 66 := by simpa using hsz
 have hc0 : (Value.agg cs).cells.toList = cs.toList := rfl;rw [hc0] at hf;obtain ⟨xs, n', _, _, _, hxl, hel⟩ := DataW.trod_struct Tryz.underlying47 hf;obtain ⟨y0, y1, y2, y3, rfl⟩ : ∃ y0 y1 y2 y3, xs = [y0, y1, y2, y3] := by
  match xs, hxl with
  | [y0, y1, y2, y3], _ => exact ⟨y0, y1, y2, y3, rfl⟩
 have c0 : Tryz.prog.cellsOf 42 = 1 := by kernel_rfl
 have c2 : Tryz.prog.cellsOf 45 = 1 := by kernel_rfl
 have c3 : Tryz.prog.cellsOf 44 = 32 := by kernel_rfl
 have F0 : DataW.trod enc Tryz.prog W base sp held n' 42 ((cs.toList.drop 0).take (Tryz.prog.cellsOf 42)) = some y0 := hel 0 _ rfl;have F1 : DataW.trod enc Tryz.prog W base sp held n' 44 ((cs.toList.drop 1).take (Tryz.prog.cellsOf 44)) = some y1 := hel 1 _ rfl;have F2 : DataW.trod enc Tryz.prog W base sp held n' 45 ((cs.toList.drop 33).take (Tryz.prog.cellsOf 45)) = some y2 := hel 2 _ rfl;have F3 : DataW.trod enc Tryz.prog W base sp held n' 44 ((cs.toList.drop 34).take (Tryz.prog.cellsOf 44)) = some y3 := hel 3 _ rfl;rw [c0, one_of _ 0 (by omega)] at F0;rw [c3] at F1 F3;rw [c2, one_of _ 33 (by omega)] at F2;obtain ⟨oa, n, c, N, I, es, hN, hI, hS⟩ := zqpl F0;obtain ⟨f, hff⟩ := zqe6 (n := 32) (k := .u8) Tryz.underlying44 Tryz.underlying5 zqc (by simp [hsz]) F1;obtain ⟨ob, m, d', P, ep, hP, hK⟩ := zque F2
 obtain ⟨t, ht⟩ := zqe6 (n := 32) (k := .u8) Tryz.underlying44 Tryz.underlying5 zqc (by simp [hsz]) F3;have e0 : cs[0]? = some (.slice oa n c) := by rw [<- Array.getElem?_toList, List.getElem?_eq_getElem (by omega)]; exact congrArg some es
 have e2 : cs[33]? = some (.slice ob m d') := by rw [<- Array.getElem?_toList, List.getElem?_eq_getElem (by omega)]; exact congrArg some ep
 refine ⟨oa, ob, n, c, m, d', f, t, N, I, P, ?_, hN, hI, hP, fun i hi => bounds_u8 (hff i hi).2, fun i hi => bounds_u8 (ht i hi).2, hS, hK⟩
 congr 1
 apply Array.ext_getElem?
 intro i
 rcases (by omega : i = 0 \/ (1 <= i /\ i < 33) \/ i = 33 \/ 34 <= i) with rfl | ⟨h1, h2⟩ | rfl | h3
 ·rw [e0, zrhi]
 ·obtain ⟨q, rfl⟩ : ∃ q, i = 1 + q := ⟨i - 1, by omega⟩
  have hq : q < 32 := by omega
  rw [zrjs _ _ _ _ _ hq];have h2 := (hff q hq).1;rw [List.getElem?_take, if_pos hq, List.getElem?_drop] at h2;rw [<- Array.getElem?_toList];exact h2
 ·rw [e2, zq8l]
 ·obtain ⟨q, rfl⟩ : ∃ q, i = 34 + q := ⟨i - 34, by omega⟩
  by_cases hq : q < 32
  ·rw [zrgy _ _ _ _ _ hq]
   have h2 := (ht q hq).1;rw [List.getElem?_take, if_pos hq, List.getElem?_drop] at h2;rw [<- Array.getElem?_toList];exact h2
  ·rw [Array.getElem?_eq_none (by omega), Array.getElem?_eq_none (by rw [zqec]; omega)]
end Go.Proofs.YtnjghcnhcbobhaaGreatDoor
