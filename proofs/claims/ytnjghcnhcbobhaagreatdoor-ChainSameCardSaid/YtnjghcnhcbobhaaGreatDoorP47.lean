/-
For every input the law ChainSame of layer 20 returns true, and each argument reads afterwards as it read before; the listed tables of package sha and the listed handle of errors' type are tied to the program's text.
-/
import Derived.Test.YtnjghcnhcbobhaaGreatDoorY20
import Derived.Test.YtnjghcnhcbobhaaGreatDoorTrk
import Derived.Test.YtnjghcnhcbobhaaGreatDoorOw
import Derived.Test.YtnjghcnhcbobhaaGreatDoorL13
import Derived.Test.YtnjghcnhcbobhaaGreatDoorV14
import Derived.Test.YtnjghcnhcbobhaaGreatDoorE15
import Derived.Test.YtnjghcnhcbobhaaGreatDoorB17
import Derived.Test.YtnjghcnhcbobhaaGreatDoorU20
import Derived.Test.YtnjghcnhcbobhaaGreatDoorU19
set_option linter.unusedVariables false
set_option linter.unusedSimpArgs false
set_option maxRecDepth 100000
set_option maxHeartbeats 4000000
namespace Go.Proofs.YtnjghcnhcbobhaaGreatDoor
open Go.RowKit Go.Lib
def offA (oa : Option Addr) (c k z : Nat) : Option Addr := if c = k then oa else oa.map (·.add (k * z))
theorem CAt.off {z : Nat} {w : World} {oa : Option Addr} {n c k : Nat} {C : Nat -> Array Value} (h : CAt z w oa n C) (hk : k <= n) (hc : n <= c) : CAt z w (offA oa c k z) (n - k) (fun j => C (k + j)) := by
 unfold offA
 by_cases e : c = k
 ·exact .inl (by omega)
 ·rw [if_neg e]
  rcases h with h | ⟨ad, rfl, hl, hh⟩
  ·exact .inl (by omega)
  ·exact CAt.rest (.inr ⟨ad, rfl, hl, hh⟩) hk
theorem zq9p (a : Addr) : a.add 0 = a := by unfold Addr.add; split <;> simp_all
theorem zrbe (oa : Option Addr) (c : Nat) : (if c = 0 then oa else oa.map (·.add 0)) = oa := by
 by_cases e : c = 0
 ·rw [if_pos e]
 ·rw [if_neg e]
  cases oa with
  | none => rfl
  | some a => exact congrArg some (zq9p a)
theorem zqqg (oa : Option Addr) (n c k : Nat) (w : World) (hk : k <= c) : (Instr.slice 77 (.slice oa n c) none (some (.int .i64 (k : Int))) none).run Tryz.prog w = .ok (.slice oa k c) w := by
 have ht : Tryz.prog.underlying 77 = some (.slice (Tryz.prog.elem 77)) := by kernel_rfl
 rw [run_slice_h _ _ _ _ _ ht _ _ (by omega) (by omega)];have h : (sizeOf (Tryz.prog.elem 77)).run Tryz.prog w = .ok 33 w := by kernel_rfl
 rw [h]
 simp only [Result.andThen_ok, sliced, Int.toNat_natCast, Nat.zero_mul, Nat.sub_zero, zrbe]
theorem zqpo (oa : Option Addr) (n c k : Nat) (w : World) (hk : k <= c) : (Instr.slice 87 (.slice oa n c) none (some (.int .i64 (k : Int))) none).run Tryz.prog w = .ok (.slice oa k c) w := by
 have ht : Tryz.prog.underlying 87 = some (.slice (Tryz.prog.elem 87)) := by kernel_rfl
 rw [run_slice_h _ _ _ _ _ ht _ _ (by omega) (by omega)];have h : (sizeOf (Tryz.prog.elem 87)).run Tryz.prog w = .ok 97 w := by kernel_rfl
 rw [h]
 simp only [Result.andThen_ok, sliced, Int.toNat_natCast, Nat.zero_mul, Nat.sub_zero, zrbe]
theorem zqpw (oa : Option Addr) (n c k : Nat) (w : World) (hk : k <= n) : (Instr.slice 77 (.slice oa n c) (some (.int .i64 (k : Int))) none none).run Tryz.prog w = .ok (.slice (offA oa c k 33) (n - k) (c - k)) w := by
 have ht : Tryz.prog.underlying 77 = some (.slice (Tryz.prog.elem 77)) := by kernel_rfl
 rw [run_slice_l _ _ _ _ _ ht _ _ (by omega) (by omega)];have h : (sizeOf (Tryz.prog.elem 77)).run Tryz.prog w = .ok 33 w := by kernel_rfl
 rw [h]
 rfl
theorem zqlg (ov : Value) (n : Nat) (C : Nat -> Array Value) : Stab (fun w => ∀ ad c2, ov = .slice (some ad) n c2 -> CAt 97 w (some ad) n C) none := fun w w' h e ad c2 hu => (h ad c2 hu).later e
theorem zqpv (aw : ∀ (w : World), Tabs w -> EtAt w -> Calls Tryz.prog 30 #[] w (Rt w (.bool true))) (r : Nat -> Int) (x : ByteArray) (oa : Option Addr) (n c : Nat) (R : Nat -> Nat -> Int) (X : Nat -> ByteArray) (cut : Int) (w : World) (hS : CAt 33 w oa n (fun j => spC (R j) (X j))) (hn9 : n <= c /\ c <= maxLen) (hu0 : 0 <= cut) (hu1 : cut <= 255) (hx9 : x.size <= 9223372036854775807) (hT : Tabs w) (hE : EtAt w) :
  Calls Tryz.prog 7 #[.agg (ints .u8 32 r), .string x, .slice oa n c, .int .u8 cut] w (Rt w (.bool true)) := by
 unfold maxLen at hn9;obtain ⟨hnc, hc9⟩ := hn9;have HS : Hid (CAt 33 w oa n (fun j => spC (R j) (X j))) := hS;have HT : Hid (Tabs w) := hT;have HE : Hid (EtAt w) := hE;clear hS hT hE
 go_enter Tryz.func7, Tryz.ntmps7
 go_wp2_with fail;have fr : zqd (w.alloc (.cells (ints .u8 32 r) 44)) w.heap.size = some (.cells (ints .u8 32 r) 44) := zqg _ _ _ rfl;have hG : Below w.heap.size w (w.alloc (.cells (ints .u8 32 r) 44)) := Grew.alloc (Grew.refl _) _;generalize w.alloc (.cells (ints .u8 32 r) 44) = w1 at *;refine (aw _ (HT.out.later (hG)) (HE.out.later (hG))).mono ?_
 rintro e w2 ⟨rfl, hb⟩;replace fr := zqc hb fr;replace hG := Grew.trans hG hb;clear hb aw
 by_cases hn : (10 : Int) < (n : Int)
 ·go_wp2
  go_ret;exact ⟨rfl, hG⟩
 by_cases hx : (500 : Int) < (x.size : Int)
 ·go_wp2
  go_ret;exact ⟨rfl, hG⟩
 go_wp2_with fail;have hX0 : Hid (∀ a, a < 0 -> (X a).size <= 500) := fun a h => absurd h (Nat.not_lt_zero _)
 go_loopw [29, 10] (fun i _ wr => ∃ j : Nat, j <= n /\ i = .int .i64 j /\ Below w2.heap.size w2 wr /\ Hid (∀ a, a < j -> (X a).size <= 500)) (fun i _ _ => n - (intOf i).toNat)
 case atStart => exact ⟨0, by omega, rfl, Grew.refl _, hX0⟩
 case round =>
  clear hX0;obtain ⟨j, hj, rfl, hG4, HX⟩ := hrel
  by_cases hlt : j < n
  ·have hi1 : (j : Int) < (n : Int) := by omega
   have hi0 : (0 : Int) <= (j : Int) := by omega
   obtain ⟨ad, rfl, -⟩ := HS.out.blk (by omega);have hGw : Below w.heap.size w wr := Grew.trans hG hG4;have hl : (zqp 85 (.pointer (some (ad.add (j * 33))))).run Tryz.prog wr = .ok (.value (.agg (spC (R j) (X j)))) wr := (HS.out.later hGw).load_cstep (fun j => zqjq _ _) hlt;have hGa := Grew.alloc hG4 (.cells (spC (R j) (X j)) 85)
   by_cases hxl : (500 : Int) < ((X j).size : Int)
   ·have hG9 := Grew.trans hG hGa
    clear hGa hGw HX;go_wp2;go_ret;exact ⟨rfl, hG9⟩
   have HX1 : Hid (∀ a, a < j + 1 -> (X a).size <= 500) := fun a ha => by
    rcases Nat.lt_or_ge a j with h | h
    ·exact HX.out a h
    ·obtain rfl : a = j := by omega
     omega
   clear hGw HX hG4;go_wp2
   go_roundw
   case rel => first | exact ⟨j + 1, by omega, by go_num, hGa, HX1⟩ | ((repeat' apply Exists.intro) <;> first | exact ⟨⟨j + 1, by omega, by go_num, hGa, HX1⟩, rfl⟩ | exact undef)
   case measure => (simp [intOf]; omega)
  ·obtain rfl : j = n := by omega
   have hi1 : ¬ ((j : Int) < (j : Int)) := by omega
   replace fr := zqc hG4 fr;replace hG := Grew.trans hG hG4;clear hG4 hlt hi1;obtain ⟨w6, rfl⟩ : ∃ w6, w6 = wr := ⟨_, rfl⟩
   obtain ⟨q, hq1, hq2, hqn⟩ : ∃ q : Nat, cut % ((j : Int) + 1) = (q : Int) /\ cut.tmod ((j : Int) + 1) = (q : Int) /\ q <= j := by
    have h1 : 0 <= cut % ((j : Int) + 1) := Int.emod_nonneg _ (by omega);have h2 : cut % ((j : Int) + 1) < (j : Int) + 1 := Int.emod_lt_of_pos _ (by omega);refine ⟨(cut % ((j : Int) + 1)).toNat, by omega, ?_, by omega⟩;rw [Int.tmod_eq_emod_of_nonneg hu0]
    omega
   have hwc : IntKind.i64.wrap cut = cut := by rw [IntKind.wrap_i64]; omega
   have hSw : Hid (CAt 33 w6 oa j (fun j => spC (R j) (X j))) := HS.out.later (hG);have hTw : Hid (Tabs w6) := HT.out.later (hG);have hSl : ∀ W : World, _ := fun W => zqqg oa j c q W (by omega);have cA1 := fun (W : World) (hb : Below w6.heap.size w6 W) => zqqc r x oa j c R X W (by omega) (by omega) (fun a ha => by have := HX.out a ha; omega) (hSw.out.later hb) (hTw.out.later hb);have cA2 := fun (W : World) (hb : Below w6.heap.size w6 W) => zqqc r x oa q c R X W (by omega) (by omega) (fun a ha => by have := HX.out a (by omega); omega) ((hSw.out.later hb).congr hqn (fun _ _ => rfl)) (hTw.out.later hb);have lr := zqa fr;have hq0 : (0 : Int) <= (q : Int) := by omega
   have hqc : (q : Int) <= (c : Int) := by omega
   go_wp2_with fail;refine zqfv (fun k => k == 3 || k == 9) (fun k => match k with | 3 => fun u => ∃ ad c2, u = .slice (some ad) (j + 1) c2 /\ j + 1 <= c2 | 9 => fun u => ∃ ad c2, u = .slice (some ad) (q + 1) c2 /\ q + 1 <= c2 | _ => fun _ => True) (fun k => match k with | 3 => fun u w => ∀ ad c2, u = .slice (some ad) (j + 1) c2 -> CAt 97 w (some ad) (j + 1) (lkN r x R X) | 9 => fun u w => ∀ ad c2, u = .slice (some ad) (q + 1) c2 -> CAt 97 w (some ad) (q + 1) (lkN r x R X) | _ => fun _ _ => True) (fun k => match k with | 3 => .slice (some ⟨0, 0, none⟩) (j + 1) (j + 1) | 9 => .slice (some ⟨0, 0, none⟩) (q + 1) (q + 1) | _ => undef) (fun i hi => ?_) zqb zqb ?_
   ·simp only [Bool.or_eq_true, beq_iff_eq] at hi
    rcases hi with rfl | rfl
    ·exact ⟨_, _, rfl, Nat.le_refl _⟩
    ·exact ⟨_, _, rfl, Nat.le_refl _⟩
   iterate 3 (first | refine zqx rfl ?_ | (refine zqn rfl ?_; apply Exists.intro))
   refine zqn rfl ⟨undef, ?_⟩
   iterate 5 (first | refine zqx rfl ?_ | (refine zqn rfl ?_; apply Exists.intro))
   refine zqn rfl ⟨undef, ?_⟩
   iterate 2 (first | refine zqx rfl ?_ | (refine zqn rfl ?_; apply Exists.intro))
   refine zqbn ?_
   intro γ gv hsv hinj hbase;obtain ⟨ad, c2, e1, hc2⟩ := hsv 3 rfl;obtain ⟨bd, c3, e2, hc3⟩ := hsv 9 rfl
   (repeat (first | (refine zqy rfl ?_; ((first | go_big_quiet_skip | (go_big_quiet_want; go_big_quiet_op; go_big_quiet_on)); refine wpQuiet_nil ?_)) | ((first | refine zqk rfl (fun _ => rfl) ?_ | (apply zqab; (focus rfl); (focus rfl); (focus rfl); (focus (intro W hC hF; (skip); go_big_quiet_want; go_big_quiet_op; (first | go_big_quiet_on | (apply Exists.intro; refine ⟨fun _ => ?_, ?_⟩; (focus ((fail))); go_big_quiet_on)); exact wpQuiet_nil rfl)); (focus (first | exact fun _ => ⟨rfl, rfl⟩ | exact fun h => absurd h (by decide))))); ((first | go_big_quiet_skip | (go_big_quiet_want; go_big_quiet_op; go_big_quiet_on)); refine wpQuiet_nil ?_)) | refine zql rfl (fun _ => rfl) ?_))
   refine zqau #[.agg (ints .u8 32 r), .string x, .slice oa j c] (enters_of Tryz.func33 zqb rfl) rfl e1 rfl rfl rfl rfl (zqcg (zqlg _ _ _)) (by first | kernel_rfl | simp [go_sem]) ?_ ?_
   ·intro W hC hF
    obtain ⟨mm, rfl⟩ := hC;refine (cA1 _ (zqo w6 mm)).mono ?_
    rintro e w9 ⟨ad9, c9, rfl, hc9, hp9, hb9⟩;exact ⟨_, rfl, ⟨_, _, rfl, hc9⟩, (fun ad2 c8 e8 => by cases e8; exact hp9), hb9⟩
   ((first | go_big_quiet_skip | (go_big_quiet_want; go_big_quiet_op; go_big_quiet_on)); refine wpQuiet_nil ?_)
   (repeat (first | (refine zqy rfl ?_; ((first | go_big_quiet_skip | (go_big_quiet_want; go_big_quiet_op; go_big_quiet_on)); refine wpQuiet_nil ?_)) | ((first | refine zqk rfl (fun _ => rfl) ?_ | (apply zqab; (focus rfl); (focus rfl); (focus rfl); (focus (intro W hC hF; (skip); go_big_quiet_want; go_big_quiet_op; (first | go_big_quiet_on | (apply Exists.intro; refine ⟨fun _ => ?_, ?_⟩; (focus ((fail))); go_big_quiet_on)); exact wpQuiet_nil rfl)); (focus (first | exact fun _ => ⟨rfl, rfl⟩ | exact fun h => absurd h (by decide))))); ((first | go_big_quiet_skip | (go_big_quiet_want; go_big_quiet_op; go_big_quiet_on)); refine wpQuiet_nil ?_)) | refine zql rfl (fun _ => rfl) ?_))
   refine zqau #[.agg (ints .u8 32 r), .string x, .slice oa q c] (enters_of Tryz.func33 zqb rfl) rfl e2 rfl rfl rfl rfl (zqhy (zqlg _ _ _) (zqlg _ _ _) rfl rfl (zqcg (zqlg _ _ _))) (by first | kernel_rfl | simp [go_sem]) ?_ ?_
   ·intro W hC hF
    obtain ⟨mm, rfl⟩ := hC;refine (cA2 _ (zqo w6 mm)).mono ?_
    rintro e w9 ⟨ad9, c9, rfl, hc9, hp9, hb9⟩;exact ⟨_, rfl, ⟨_, _, rfl, hc9⟩, (fun ad2 c8 e8 => by cases e8; exact hp9), hb9⟩
   ((first | go_big_quiet_skip | (go_big_quiet_want; go_big_quiet_op; go_big_quiet_on)); refine wpQuiet_nil ?_)
   (repeat (first | (refine zqy rfl ?_; ((first | go_big_quiet_skip | (go_big_quiet_want; go_big_quiet_op; go_big_quiet_on)); refine wpQuiet_nil ?_)) | ((first | refine zqk rfl (fun _ => rfl) ?_ | (apply zqab; (focus rfl); (focus rfl); (focus rfl); (focus (intro W hC hF; (skip); go_big_quiet_want; go_big_quiet_op; (first | go_big_quiet_on | (apply Exists.intro; refine ⟨fun _ => ?_, ?_⟩; (focus ((fail))); go_big_quiet_on)); exact wpQuiet_nil rfl)); (focus (first | exact fun _ => ⟨rfl, rfl⟩ | exact fun h => absurd h (by decide))))); ((first | go_big_quiet_skip | (go_big_quiet_want; go_big_quiet_op; go_big_quiet_on)); refine wpQuiet_nil ?_)) | refine zql rfl (fun _ => rfl) ?_))
   (refine zqcb ?_; rintro _ ⟨mq, rfl⟩ hF; simp only [List.forall_mem_cons] at hF; obtain ⟨f2, f1, -⟩ := hF)
   have HB := hid1 (f2 _ _ rfl);have HA := hid1 (f1 _ _ rfl);replace hG := Grew.more hG mq;have hSw2 : Hid (CAt 33 (more w6 mq) oa j (fun j => spC (R j) (X j))) := hSw.out.later (zqo w6 mq);have hTw2 : Hid (Tabs (more w6 mq)) := hTw.out.later (zqo w6 mq);clear f1 f2 hsv hinj hbase e1 e2 cA1 cA2 hSw hTw lr fr;generalize more w6 mq = w7 at *;clear γ gv;have hSk : ∀ W : World, _ := fun W => zqpo (some ad) (j + 1) c2 (q + 1) W (by omega);have cE := fun W (hb : Below w7.heap.size w7 W) => zqy0 ad bd (q + 1) c2 c3 r x R X W (by omega) ((HA.out.later hb).congr (by omega) (fun _ _ => rfl)) (HB.out.later hb);have hql : (q : Int) < (q : Int) + 1 := by omega
   go_wp2_with fail;refine (cE _ (Grew.refl _)).mono ?_
   rintro e w8 ⟨rfl, hb⟩;replace HA := hid1 (HA.out.later hb);replace HB := hid1 (HB.out.later hb);replace hSw2 := hid1 (hSw2.out.later hb);replace hTw2 := hid1 (hTw2.out.later hb);replace hG := Grew.trans hG hb;clear hb cE hSk;have hl := HB.out.load_link (zqc8 r x R X) (Nat.lt_succ_self q);have hSl : ∀ W : World, _ := fun W => zqpw oa j c q W (by omega);have hO := fun (W : World) (hb : Below w8.heap.size w8 W) => (hSw2.out.later hb).off hqn hnc;generalize offA oa c q 33 = ob at *;have hqj : (q : Int) <= (j : Int) := by omega
   go_wp2_with fail;have fl : zqd (w8.alloc (.cells (lkN r x R X q) 79)) w8.heap.size = some (.cells (lkN r x R X q) 79) := zqg _ _ _ rfl;have hG8 : Below w8.heap.size w8 (w8.alloc (.cells (lkN r x R X q) 79)) := Grew.alloc (Grew.refl _) _;clear hl;generalize hw9 : w8.alloc (.cells (lkN r x R X q) 79) = w9 at *;clear hw9
   go_loopw [84, 15, 16] (fun i _ _ wr => ∃ a : Nat, a <= j - q /\ i = .int .i64 a /\ zqd wr w8.heap.size = some (.cells (lkN r x R X (q + a)) 79) /\ Below w8.heap.size w8 wr) (fun i _ _ _ => (j - q) - (intOf i).toNat)
   case atStart => exact ⟨0, by omega, rfl, fl, hG8⟩
   case round =>
    clear hG8 fl;obtain ⟨a, ha, rfl, fl, hG8⟩ := hrel;have lfl := zqa fl
    by_cases hlt : a < j - q
    ·have hi1 : (a : Int) < ((j - q : Nat) : Int) := by omega
     have hi0 : (0 : Int) <= (a : Int) := by omega
     have hOw := hO wr (hG8);obtain ⟨od, rfl, -⟩ := hOw.blk (by omega);have hl : (zqp 85 (.pointer (some (od.add (a * 33))))).run Tryz.prog wr = .ok (.value (.agg (spC (R (q + a)) (X (q + a))))) wr := hOw.load_cstep (fun j => zqjq _ _) hlt;obtain ⟨m, hm⟩ : ∃ m : Nat, (q : Int) + 1 + (a : Int) = (m : Int) := ⟨q + 1 + a, by omega⟩
     have hmq : Hid (q + a + 1 = m) := by show q + a + 1 = m; omega
     have cN1 := fun (W : World) (hb : Below w8.heap.size w8 W) => zq2n r x R X (q + a) W (by have := HX.out (q + a) (by omega); omega) (by omega) (hTw2.out.later (hb));rw [hmq.out] at cN1;have hGa := Grew.alloc hG8 (.cells (spC (R (q + a)) (X (q + a))) 85);have fl1 := zqi (.cells (spC (R (q + a)) (X (q + a))) 85) fl;clear hOw;go_wp2_with fail;refine (cN1 _ hGa).mono ?_
     rintro e w10 ⟨rfl, hb⟩;have fl0 := zqc hb fl1;have lfl0 := zqa fl0;go_wp2_with fail;have fl2 := zqr (lkN r x R X m) fl0;have hG9 := Grew.setRow (Grew.trans hGa hb) w8.heap.size (lkN r x R X m) (Nat.le_refl _);clear fl0 lfl0 lfl fl1 fl hl hGa hG8 cN1 hb;generalize w10.setRow w8.heap.size (lkN r x R X m) = w11 at *;have lfl := zqa fl2;have l2 := fun p : More => (HA.out.later (Grew.more hG9 p)).load_link (zqc8 r x R X) (show m < j + 1 by have := hmq.out; omega);have hm0 : (0 : Int) <= (m : Int) := by omega
     have hm1 : (m : Int) < (j : Int) + 1 := by omega
     have hwm : IntKind.u32.wrap (m : Int) = (m : Int) := by rw [IntKind.wrap_u32]; omega
     have hwn : IntKind.i64.wrap (m : Int) = (m : Int) := by rw [IntKind.wrap_i64]; omega
     ((first | (with_reducible refine zq8 zqb zqb ?_) | refine zqz zqb zqb ?_); (repeat (first | go_big_quiet_skip | (go_big_quiet_want; go_big_quiet_op; go_big_quiet_on))); refine wpQuiet_nil ?_; rintro _ ⟨mq, rfl⟩)
     have hG10 := Grew.more hG9 mq;have fl3 := zqq mq fl2;have hmr : m = q + (a + 1) := by have := hmq.out; omega
     subst hmr;clear l2 hG9 fl2 lfl;generalize more w11 mq = w12 at *;go_wp2
     go_roundw
     case rel => first | exact ⟨a + 1, by omega, by go_num, fl3, hG10⟩ | ((repeat' apply Exists.intro) <;> first | exact ⟨⟨a + 1, by omega, by go_num, fl3, hG10⟩, rfl⟩ | exact undef)
     case measure => (simp [intOf] <;> omega)
    ·obtain rfl : a = j - q := by omega
     have hi1 : ¬ (((j - q : Nat) : Int) < ((j - q : Nat) : Int)) := by omega
     replace hG := Grew.trans hG (hG8);go_wp2;go_ret;exact ⟨rfl, hG⟩
end Go.Proofs.YtnjghcnhcbobhaaGreatDoor
namespace Go.Proofs.YtnjghcnhcbobhaaGreatDoor
open Go.ChangeShapes Go.WideShapes Go.ChangeAt Go.RowKit
open Go.ChangeMaps (open_string shut_string)
theorem chainSame_lifted (os : Os) (started : os.Started) (H : Type) (enc : TypeId × Value -> H) :
  ReturnsInHanded {} Tryz.checked os 7 .any (fun w args => (Rows.chainSameSpec.pre enc Tryz.prog Tryz.f7 [] false w args /\ laidMetH Tryz.prog Rows.chainSameRow.laid w) /\ sizedMet enc Tryz.prog Tryz.f7 (OpenSpec.ofChange Rows.chainSameSpec) false w args)
   (Rows.chainSameSpec.post enc Tryz.prog Tryz.f7 false true false false) := by
 refine returnsInHanded_of_change_and (C := Tryz.checked) (X := fun w _ => laidMetH Tryz.prog Rows.chainSameRow.laid w) (fun _ _ _ hh h => h.of_heap hh) own started zqb Tryz.func7
  (ChangeSpec.witness_shaped (enc := enc) (C := Tryz.checked) (os := os) (X := fun w _ => laidMetH Tryz.prog Rows.chainSameRow.laid w) false (hwL os) #[.agg (Array.replicate 32 (.int .u8 0)), .string ⟨#[]⟩, .slice none 0 0, .int .u8 0] 8 (zq94 os)
   (World.shaped_of_ZipB zqb zqb) zqb zqb zqb
   (zq4h os _)) ?_
 intro W base args ds gs before hval0 hW _ _ hL _;have hval : ∀ (j : Nat) t v, Tryz.f7.params[j]? = some t -> args[j]? = some v -> Value.okWide Tryz.prog W .any base t v := hval0;have hW' := hW;obtain ⟨p, q, hA0, hV, rfl, hfz, hnd⟩ := hW;have hA : DataW.TrodAll enc Tryz.prog W 0 (fun _ => true) true Tryz.f7.params.toList args.toList ds p := hA0;rw [Tryz.params7] at hA hval;obtain ⟨v0, vs0, d0, ds0, p0, q0, hargs, rfl, rfl, h0, r0⟩ := trodAll_cons hA;obtain ⟨v1, vs1, d1, ds1, p1, q1, rfl, rfl, rfl, h1, r1⟩ := trodAll_cons r0;obtain ⟨v2, vs2, d2, ds2, p2, q2, rfl, rfl, rfl, h2, r2⟩ := trodAll_cons r1;obtain ⟨v3, vs3, d3, ds3, p3, q3, rfl, rfl, rfl, h3, r3⟩ := trodAll_cons r2;obtain ⟨rfl, rfl, rfl⟩ := trodAll_nil r3;obtain rfl : args = #[v0, v1, v2, v3] := by cases args; simp_all
 obtain ⟨rfl, rfl⟩ := trodVars_none hV;have k0 := h0;have lt0 : ∀ x ∈ p0, x.block < W.heap.size := by obtain ⟨m, hm⟩ := k0; exact DataW.trod_lt m _ _ _ hm
 have k1 := h1;have lt1 : ∀ x ∈ p1, x.block < W.heap.size := by obtain ⟨m, hm⟩ := k1; exact DataW.trod_lt m _ _ _ hm
 have k2 := h2;have lt2 : ∀ x ∈ p2, x.block < W.heap.size := by obtain ⟨m, hm⟩ := k2; exact DataW.trod_lt m _ _ _ hm
 have k3 := h3;have lt3 : ∀ x ∈ p3, x.block < W.heap.size := by obtain ⟨m, hm⟩ := k3; exact DataW.trod_lt m _ _ _ hm
 obtain ⟨a0, rfl, w0⟩ := zqkc Tryz.underlying44 Tryz.underlying5 zqb zqb (hval 0 44 v0 rfl rfl) h0;obtain ⟨a1, rfl, _, _, w1⟩ := open_string Tryz.underlying9 (hval 1 9 v1 rfl rfl) h1;obtain ⟨oa2, n2, c2, R2, X2, rfl, bn2, br2, m2⟩ := zqof (hval 2 77 v2 rfl rfl) h2;obtain ⟨a3, rfl, _, _, w3⟩ := open_int Tryz.underlying5 (hval 3 5 v3 rfl rfl) h3;clear hA0 hval0;obtain ⟨hT, hE⟩ := zqwb hL
 refine (zqpv (fun W h hE => zqnr (fun W h hE => zqnc (fun W h hE => zqmm (fun W h hE => zqma (fun W h hE => zql1 (fun W h hE => zqmo (fun W h hE => zqmc (fun W h hE => zqm6 (fun W h hE => zql8 (fun W h hE => zqms (fun W h hE => zqmd (fun W h => zqnh (fun W h => zqmi (fun W h => zql0 (fun W h => zqlp (fun W h => zql3 aw12 W h) W h) W h) W h) W h) W h hE) W h hE) W h hE) W h hE) W h hE) W h hE) W h hE) W h hE) W h hE) W h hE) W h hE) a0 a1 oa2 n2 c2 R2 X2 a3 W m2 bn2 (bounds_u8 w3).1 (bounds_u8 w3).2 (by unfold maxLen at w1; omega) hT hE).mono fun e W' ⟨he, bel⟩ => ?_
 subst he;exact ⟨_, rfl, _, _, _, [], _, [], hW', trodAll_mk1 (shut_bool Tryz.underlying4 _), (trodAll_cons_mk (Below.trod laidOut zqb (of_decide_eq_true zqb) k0 bel lt0) (trodAll_cons_mk (Below.trod laidOut zqb (of_decide_eq_true zqb) k1 bel lt1) (trodAll_cons_mk (Below.trod laidOut zqb (of_decide_eq_true zqb) k2 bel lt2) (trodAll_cons_mk (Below.trod laidOut zqb (of_decide_eq_true zqb) k3 bel lt3) trodAll_mk0)))), rfl, bel.frame _, fun h => by cases h⟩
theorem zqld : joinedFacts Tryz.prog 7 Tryz.f7 (Rows.chainSameSpec) Rows.chainSameRow = true := by
 first
 | (unfold joinedFacts; rw [may_enter, make_is, zqv3]; first | (rw [zrjn 7 (by decide)]; kernel_rfl) | kernel_rfl)
 | kernel_rfl
theorem chainSame_said : Rows.ChainSameSaid :=
 OpenClaim.holds_of_wide 7 Tryz.f7 rfl rfl rfl rfl rfl rfl rfl ⟨rfl, rfl, rfl, rfl, rfl⟩ rfl rfl rfl rfl rfl zqb Tryz.func7 (by first | exact zqld | kernel_rfl)
  (of_decide_eq_true zqb) (by unfold Func.isWrapper; first | (rw [if_pos (by decide +kernel)]; kernel_rfl) | (rw [if_neg (by decide +kernel)]; exact ⟨rfl, rfl⟩))
  (fun os started H enc _ => chainSame_lifted os started H enc)
theorem chainSame_card : Rows.ChainSameCardSaid :=
 Claim7.holds_tied_plain_at .later [] _ _ _ _ chainSame_said (fun _ h => by cases h) zqb (fun _ h => by cases h) chainSame_row_tie rfl ⟨rfl, rfl⟩ zqb rfl
  (fun f fn hf hfn => by
   obtain rfl : f = 7 := Option.some.inj ((show Tryz.prog.funcNamed "sapwood/sapwoodlaw20.ChainSame" = some 7 by kernel_rfl).symm.trans hf) |>.symm
   obtain rfl : fn = Tryz.f7 := (Option.some.inj (Tryz.func7.symm.trans hfn)).symm;exact ⟨by kernel_rfl, fun j t ht => by
    rw [Tryz.params7] at ht;have hm : t ∈ [44, 9, 77, 5] := by simpa using Array.mem_of_getElem? ht
    have hall : ([44, 9, 77, 5].all fun u => !Tryz.prog.wantsStandIn u) = true := by kernel_rfl
    exact (show Tryz.prog.wantsStandIn t = false by simpa using List.all_eq_true.1 hall t hm)⟩)
  zqb
end Go.Proofs.YtnjghcnhcbobhaaGreatDoor
