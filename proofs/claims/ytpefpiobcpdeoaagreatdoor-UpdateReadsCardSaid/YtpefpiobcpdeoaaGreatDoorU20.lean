/- U20 -/
import Derived.Test.YtpefpiobcpdeoaaGreatDoorU19
import Derived.Test.YtpefpiobcpdeoaaGreatDoorB17
import Derived.Test.YtpefpiobcpdeoaaGreatDoorC16
import Derived.Test.YtpefpiobcpdeoaaGreatDoorL13
import Derived.Test.YtpefpiobcpdeoaaGreatDoorQ13
import Derived.Test.YtpefpiobcpdeoaaGreatDoorQ11
import Derived.Test.YtpefpiobcpdeoaaGreatDoorR11
set_option linter.unusedVariables false
set_option linter.unusedSimpArgs false
set_option maxRecDepth 100000
set_option maxHeartbeats 4000000
namespace Go.Proofs.YtpefpiobcpdeoaaGreatDoor
open Go.RowKit Go.Extern
attribute [local go_sem high] zqfy
theorem k32_oneR {W : World} {g : Nat} {y : Nat -> Int} (h : Full g (ints .u8 32 y) 43 W) : K32At W (some ⟨g, 0, none⟩) 1 (fun _ => y) := zqf3 (n := 1) h (by decide) (fun j hj i hi => by
 obtain rfl : j = 0 := by omega
 rw [Nat.zero_mul, Nat.zero_add])
def kyP (S : ByteArray) (a j : Nat) : Nat -> Int := fun i => if i < j then byteAt S (a + i) else 0
theorem kyP_zero (S : ByteArray) (a : Nat) : ints .u8 32 (kyP S a 0) = ints .u8 32 zqe := zqa6 fun i hi => by
 unfold kyP zqe;rw [if_neg (by omega)]
theorem kyP_step (S : ByteArray) (a k : Nat) (hk : k < 32) : ints .u8 32 (upd (kyP S a k) k (byteAt S (a + k))) = ints .u8 32 (kyP S a (k + 1)) := zqa6 fun i hi => by
 unfold upd kyP
 by_cases e : i = k
 ·subst e
  rw [if_pos rfl, if_pos (by omega)]
 ·rw [if_neg e]
  by_cases h : i < k
  ·rw [if_pos h, if_pos (by omega)]
  ·rw [if_neg h, if_neg (by omega)]
theorem kyP_all (S : ByteArray) (a : Nat) : ints .u8 32 (kyP S a 32) = ints .u8 32 (fun i => byteAt S (a + i)) := zqa6 fun i hi => by
 unfold kyP;rw [if_pos hi]
theorem num19_any (s : ByteArray) (w : World) (hs : s.size <= 4) :
  Calls Tryz.prog 100 #[.string s] w (Rt w (.int .i64 (beK s s.size))) := by
 go_enter Tryz.func100, Tryz.ntmps100
 go_wp2_with fail
 go_loopw [3, 4] (fun n i wr => ∃ k : Nat, k <= s.size /\ i = .int .i64 k /\ n = .int .i64 (beK s k) /\ wr = w) (fun _ i _ => s.size - (intOf i).toNat)
 case atStart => exact ⟨0, by omega, rfl, rfl, rfl⟩
 case round =>
  obtain ⟨k, hk, rfl, rfl, rfl⟩ := hrel
  by_cases hlt : k < s.size
  ·have hlt' : (k : Int) < (s.size : Int) := by omega
   have hk0 : (0 : Int) <= (k : Int) := by omega
   have h1 := zqte (T := s) k (by omega);have h2 := zqte (T := s) (k + 1) (by omega);have hb := zqc6 s k;have hst : beK s (k + 1) = beK s k * 256 + byteAt s k := rfl;have w1 : IntKind.i64.wrap (byteAt s k) = byteAt s k := wrap_small (by omega) (by omega);go_wp2
   go_roundw
   case rel => exact ⟨k + 1, by omega, by go_num, by first | rfl | (rw [hst]), trivial⟩
   case measure => simp [intOf]; omega
  ·obtain rfl : k = s.size := by omega
   go_wp2;go_ret;exact ⟨rfl, Grew.refl _⟩
theorem key19_any (S : ByteArray) (a : Nat) (A : Int) (w : World) (hA : A = (a : Int)) (hs : S.size <= 100000) (ha : a + 32 <= S.size) :
  Calls Tryz.prog 101 #[.string S, .int .i64 A] w (Rt w (.agg (ints .u8 32 (fun i => byteAt S (a + i))))) := by
 subst hA
 go_enter Tryz.func101, Tryz.ntmps101
 go_wp2_with fail
 go_loopw [6] (fun i wr => ∃ j : Nat, j <= 32 /\ i = .int .i64 j /\ wr = (w.alloc (.cells (ints .u8 32 zqe) 43)).alloc (.cells (ints .u8 32 (kyP S a j)) 43)) (fun i _ => 32 - (intOf i).toNat)
 case atStart => exact ⟨0, by omega, rfl, by rw [kyP_zero]⟩
 case round =>
  obtain ⟨j, hj, rfl, rfl⟩ := hrel
  by_cases hj2 : j < 32
  ·have hj3 : (j : Int) < 32 := by omega
   have hj4 : (0 : Int) <= (j : Int) := by omega
   have hu := kyP_step S a j hj2;have ht3 : ((a : Int) + (j : Int)).toNat = a + j := by omega
   have b5 : (0 : Int) <= (a : Int) + (j : Int) := by omega
   have b6 : (a : Int) + (j : Int) < (S.size : Int) := by omega
   have b7 : a + j < S.size := by omega
   go_wp2
   go_roundw
   case rel => exact ⟨j + 1, by omega, by go_num, by first | rfl | rw [hu]⟩
   case measure => simp [intOf]; omega
  ·obtain rfl : j = 32 := by omega
   rw [kyP_all];have fr : zqd ((w.alloc (.cells (ints .u8 32 zqe) 43)).alloc (.cells (ints .u8 32 (fun i => byteAt S (a + i))) 43)) w.heap.size = some (.cells (ints .u8 32 zqe) 43) := zqj _ (zqg _ _ _ rfl);have fk : zqd ((w.alloc (.cells (ints .u8 32 zqe) 43)).alloc (.cells (ints .u8 32 (fun i => byteAt S (a + i))) 43)) (w.heap.size + 1) = some (.cells (ints .u8 32 (fun i => byteAt S (a + i))) 43) := zqg _ _ _ (by simp);have hG : Below w.heap.size w ((w.alloc (.cells (ints .u8 32 zqe) 43)).alloc (.cells (ints .u8 32 (fun i => byteAt S (a + i))) 43)) := Grew.alloc (Grew.alloc (Grew.refl _) _) _;generalize (w.alloc (.cells (ints .u8 32 zqe) 43)).alloc (.cells (ints .u8 32 (fun i => byteAt S (a + i))) 43) = w3 at *;have lr := zqa fr;have lk := zqa fk;go_wp2
   refine zqan rfl _ 43 _ (0, 0) _ rfl (zqw _ fr) Tryz.underlying43 rfl (by rw [zqi]; kernel_rfl) rfl ⟨rfl, Grew.setRow hG _ _ (Nat.le_refl _)⟩
theorem rcheck19_any (s l : Int) (oa : Option Addr) (n c : Nat) (t : Nat -> Int) (w : World) :
  Calls Tryz.prog 37 #[.agg (uvC s l (.slice oa n c) t)] w (Rt w (.int .i64 (if 1 <= n /\ n <= 10 then 0 else 6))) := by
 go_enter Tryz.func37, Tryz.ntmps37
 have hG : Below w.heap.size w (w.alloc (.cells (uvC s l (.slice oa n c) t) 83)) := Grew.alloc (Grew.refl _) _
 by_cases h1 : 1 <= n
 ·have i1 : ¬ ((n : Int) < 1) := by omega
  by_cases h2 : n <= 10
  ·have i2 : ¬ ((10 : Int) < (n : Int)) := by omega
   rw [if_pos ⟨h1, h2⟩];go_wp2;go_ret;exact ⟨rfl, hG⟩
  ·have i2 : (10 : Int) < (n : Int) := by omega
   rw [if_neg (fun h => h2 h.2)];go_wp2;go_ret;exact ⟨rfl, hG⟩
 ·have i1 : (n : Int) < 1 := by omega
  rw [if_neg (fun h => h1 h.1)];go_wp2;go_ret;exact ⟨rfl, hG⟩
theorem rbody19_any (s l : Int) (oa : Option Addr) (n c : Nat) (t : Nat -> Int) (P : Nat -> Nat -> Int) (w : World) (hs : 0 <= s /\ s < 4294967296) (hl : 0 <= l /\ l < 65536) (hP : K32At w oa n P) (h2 : n <= 100) :
  Calls Tryz.prog 44 #[.agg (uvC s l (.slice oa n c) t)] w (Rt w (.string (catS (uF s l n P t) 6))) := by
 have HP : Hid (K32At w oa n P) := hP;clear hP;have hw1 : IntKind.u64.wrap s = s := by rw [IntKind.wrap_u64]; omega
 have hw2 : IntKind.u64.wrap l = l := by rw [IntKind.wrap_u64]; omega
 have hw3 : IntKind.u64.wrap (n : Int) = (n : Int) := by rw [IntKind.wrap_u64]; omega
 have eT : catS (uF s l n P t) 6 = numB 1 1 ++ numB 1 3 ++ numB 4 s ++ numB 2 l ++ numB 1 (n : Int) ++ zqbk P n := by
  show ByteArray.empty ++ numB 1 1 ++ numB 1 3 ++ numB 4 s ++ numB 2 l ++ numB 1 (n : Int) ++ zqbk P n = _
  rw [ByteArray.empty_append]
 have c1 : ∀ W : World, Calls Tryz.prog 82 #[.int .i64 1, .int .u64 1] W (Rt W (.string (numB 1 1))) := fun W => zqjl 1 1 W (by decide) (by decide);have c2 : ∀ W : World, Calls Tryz.prog 82 #[.int .i64 1, .int .u64 3] W (Rt W (.string (numB 1 3))) := fun W => zqjl 1 3 W (by decide) (by decide);have c3 : ∀ W : World, Calls Tryz.prog 82 #[.int .i64 4, .int .u64 s] W (Rt W (.string (numB 4 s))) := fun W => zqjl 4 s W (by omega) (by omega);have c4 : ∀ W : World, Calls Tryz.prog 82 #[.int .i64 2, .int .u64 l] W (Rt W (.string (numB 2 l))) := fun W => zqjl 2 l W (by omega) (by omega);have c5 : ∀ W : World, Calls Tryz.prog 82 #[.int .i64 1, .int .u64 (n : Int)] W (Rt W (.string (numB 1 (n : Int)))) := fun W => zqjl 1 (n : Int) W (by omega) (by omega);have z1 := zqar 1 1;have z2 := zqar 1 3;have z3 := zqar 4 s;have z4 := zqar 2 l
 have z5 := zqar 1 (n : Int);have z6 := zqbl P n;rw [eT]
 go_enter Tryz.func44, Tryz.ntmps44
 go_wp2_with fail;have fb : zqd (w.alloc (.cells (uvC s l (.slice oa n c) t) 83)) w.heap.size = some (.cells (uvC s l (.slice oa n c) t) 83) := zqg _ _ _ rfl;have hG : Below w.heap.size w (w.alloc (.cells (uvC s l (.slice oa n c) t) 83)) := Grew.alloc (Grew.refl _) _;generalize w.alloc (.cells (uvC s l (.slice oa n c) t) 83) = w1 at *;have lb := zqa fb;have c6 := fun (W : World) (hb : Below w1.heap.size w1 W) => zqob P oa n c W ((HP.out.later hG).later hb) (by omega);clear eT;generalize hA1 : numB 1 1 = A1 at *;generalize hA2 : numB 1 3 = A2 at *;generalize hA3 : numB 4 s = A3 at *;generalize hA4 : numB 2 l = A4 at *;generalize hA5 : numB 1 (n : Int) = A5 at *;generalize hA6 : zqbk P n = A6 at *;have q1 : zqe7 A1 A2 := by unfold zqe7; omega
 have q2 : zqe7 (A1 ++ A2) A3 := by unfold zqe7; simp only [ByteArray.size_append]; omega
 have q3 : zqe7 (A1 ++ A2 ++ A3) A4 := by unfold zqe7; simp only [ByteArray.size_append]; omega
 have q4 : zqe7 (A1 ++ A2 ++ A3 ++ A4) A5 := by unfold zqe7; simp only [ByteArray.size_append]; omega
 have q5 : zqe7 (A1 ++ A2 ++ A3 ++ A4 ++ A5) A6 := by unfold zqe7; simp only [ByteArray.size_append]; omega
 clear z1 z2 z3 z4 z5 z6
 ((first | (with_reducible refine zq8 zqb zqb ?_) | refine zq1 zqb zqb ?_); (repeat (first | go_big_quiet_skip | (go_big_quiet_want; go_big_quiet_op; first | go_big_quiet_on | (apply Exists.intro; refine ⟨fun _ => ?_, ?_⟩; (focus (first | (with_reducible exact Calls.of_more (c1 _)) | (with_reducible exact Calls.of_more (c2 _)) | (with_reducible exact Calls.of_more (c3 _)) | (with_reducible exact Calls.of_more (c4 _)) | (with_reducible exact Calls.of_more (c5 _)) | (exact Calls.of_more (c6 _ (zqm _ _))))); go_big_quiet_on)))); refine wpQuiet_nil ?_; rintro _ ⟨mq, rfl⟩)
 go_wp2;go_ret;exact ⟨by subst hA1 hA2 hA3 hA4 hA5 hA6; rfl, Grew.more hG _⟩
theorem rtext19_any (s l : Int) (oa : Option Addr) (n c : Nat) (t : Nat -> Int) (P : Nat -> Nat -> Int) (w : World) (hs : 0 <= s /\ s < 4294967296) (hl : 0 <= l /\ l < 65536) (hP : K32At w oa n P) (h2 : n <= 100) :
  Calls Tryz.prog 43 #[.agg (uvC s l (.slice oa n c) t)] w (Rt w (.string (uB s l n P t))) := by
 have HP : Hid (K32At w oa n P) := hP;clear hP;have hz := uF_size s l n P t;have hz2 : (zqbk (fun _ => t) 1).size = 32 * 1 := zqbl _ _;have eT : uB s l n P t = catS (uF s l n P t) 6 ++ zqbk (fun _ => t) 1 := rfl;rw [eT];clear eT
 go_enter Tryz.func43, Tryz.ntmps43
 go_wp2_with fail;have fb : zqd (w.alloc (.cells (uvC s l (.slice oa n c) t) 83)) w.heap.size = some (.cells (uvC s l (.slice oa n c) t) 83) := zqg _ _ _ rfl;have hG : Below w.heap.size w (w.alloc (.cells (uvC s l (.slice oa n c) t) 83)) := Grew.alloc (Grew.refl _) _;generalize w.alloc (.cells (uvC s l (.slice oa n c) t) 83) = w1 at *;have lb := zqa fb;have cB := fun (W : World) (hb : Below w1.heap.size w1 W) => rbody19_any s l oa n c t P W hs hl ((HP.out.later hG).later hb) h2;generalize hBB : catS (uF s l n P t) 6 = B at *;have cK : ∀ (g : Nat) (W : World), Full g (ints .u8 32 t) 43 W -> Calls Tryz.prog 83 #[.slice (some ⟨g, 0, none⟩) 1 1] W (Rt W (.string (zqbk (fun _ => t) 1))) := fun g W h => zqob (fun _ => t) (some ⟨g, 0, none⟩) 1 1 W (k32_oneR h) (by decide);generalize hKK : zqbk (fun _ => t) 1 = K1 at *;have q1 : zqe7 B K1 := by unfold zqe7; omega
 (refine zqg2 zqb zqb ?_; (repeat (first | refine zqs rfl ?_ | (refine zqn rfl ?_; apply Exists.intro))); refine zqbn ?_; intro γ hinj hbase; (repeat (first | (refine zqt rfl ?_; ((first | go_big_quiet_skip | (go_big_quiet_want; go_big_quiet_op; go_big_quiet_on)); refine wpQuiet_nil ?_)) | ((first | refine zql rfl (fun _ => rfl) ?_ | ((try simp only [Nat.zero_add, Nat.reduceAdd]); apply zqdp zq2; (focus rfl); (focus (first | exact zqag _ | exact zqaj _ _ | exact zqae _ | rfl)); (focus (exact zq9))) | ((try simp only [Nat.zero_add, Nat.reduceAdd]); apply zqbs _ _ zq2; (focus rfl); (focus (intro W; (first | exact zqcd _ | exact zqbt _ | exact zero_num _ | exact zqbx _ | exact zqbd _ | exact zqbc _))); (focus (first | exact zqbe _ _ _ | exact zqbw _ _ | rfl)); (focus (exact zq9))) | ((try simp only [Nat.zero_add, Nat.reduceAdd]); apply zqbq zq2; (focus rfl); (focus (intro W; simp only [List.map_toArray, List.map_cons, List.map_nil]; first | (with_reducible exact zqm9 _ W) | exact zqm9 _ W)); (focus (exact zq9))) | (apply zq4; (focus rfl); (focus rfl); (focus rfl); (focus (intro W hC hF; (have hbW : Below w1.heap.size w1 W := by obtain ⟨mm, rfl⟩ := hC; exact zqm w1 mm); (try (have hE1 : Full (γ 4) (ints .u8 32 t) 43 W := known hF (List.mem_cons_self ..) (by decide +kernel))); go_big_quiet_want; go_big_quiet_op; (first | go_big_quiet_on | (apply Exists.intro; refine ⟨fun _ => ?_, ?_⟩; (focus (first | (exact Calls.of_more (cB _ (Grew.more hbW _))) | (exact Calls.of_more (cK _ _ (zqp _ hE1))))); go_big_quiet_on)); exact wpQuiet_nil rfl)); (focus (first | exact fun _ => ⟨rfl, rfl⟩ | exact fun h => absurd h (by decide))))); ((first | go_big_quiet_skip | (go_big_quiet_want; go_big_quiet_op; go_big_quiet_on)); refine wpQuiet_nil ?_)) | refine zqk rfl (fun _ => rfl) ?_ | ((try simp only [Nat.zero_add, Nat.reduceAdd]); apply zqbu (zqbf (hbase _)); (focus rfl); (focus rfl); (focus rfl); (focus (first | exact zqag _ | exact zqaj _ _ | exact zqae _ | rfl)); rotate_left 3; (focus (exact zqd5)); rotate_right 3; (focus kernel_rfl); (focus (first | exact zqi _ _ _ | rfl)); (focus (first | exact zqa9 _ _ _ | exact zqb0 _ _ _ _ | kernel_rfl)); (focus (decide +kernel)); (focus (exact zq9))))))
 (refine zqb1 ?_; rintro _ ⟨mq, rfl⟩ hF; simp only [List.forall_mem_cons] at hF; obtain ⟨-, -⟩ := hF)
 go_wp2;go_ret;exact ⟨by subst hBB hKK; rfl, Grew.more hG _⟩
theorem step_row {ops : Array Oper} {o : Oper} {a : Act} {K : Act -> World -> Prop} {Q : Exit -> Act -> World -> Prop} {E : Prop} (hgd : o.guard = none) (s x : Operand) (ho : o.op = .call { callee := .builtin .append, args := #[s, x], argTypes := #[51, 51] })
  (w W : World) (base : Nat) (v : Value) (n : Nat) (F : Nat -> Nat -> Int) (g2 : Nat) (t2 : TypeId) (fr : Nat × Nat) (hs : a.eval s = v) (hx : a.eval x = .slice (some ⟨g2, 0, none⟩) 1 1) (own : W.ownsRow base 43 32 v n (k32L F n)) (hn : n <= 1048576)
  (hg2 : zqd W g2 = some (.cells (ints .u8 32 (F n)) t2 fr)) (hG : Below w.heap.size w W) (hwb : w.heap.size <= base) (hbW : base <= W.heap.size)
  (h : ∀ g cap w', w'.ownsRow base 43 32 (.slice (some ⟨g, 0, none⟩) (n + 1) cap) (n + 1) (k32L F (n + 1)) -> Below w.heap.size w w' -> (∀ m ob, m < base -> zqd W m = some ob -> zqd w' m = some ob) -> K (a.put o.dst (.slice (some ⟨g, 0, none⟩) (n + 1) cap)) w') :
  if Region.wanted o (yielded ops a.tmps) = true then Oper.wp Tryz.prog o a W K Q else E :=
 step_cells (i := (Tryz.prog.info? 43).get zqb) (z := ((Tryz.prog.info? 43).get zqb).zero.get zqb) 32 32 Tryz.underlying51 zqb zqb zqb zqb zqb (by decide) (by decide) hgd s x ho w W base v n (k32L F n) (ints .u8 32 (F n)) g2 t2 fr hs hx own hn hg2 (zqi _ _ _)
  (fun u hu => by
   have h1 := zqa9 .u8 32 (F n);rw [Array.all_eq_true'] at h1;exact h1 u (by simpa using hu)) hG hwb hbW fun g cap w' ho hb hk _ => h g cap w' (by rw [zqft]; exact ho) hb hk
theorem same19_any (s l : Int) (oa ob : Option Addr) (n c d : Nat) (t : Nat -> Int) (P : Nat -> Nat -> Int) (w : World) (hn : n <= 1000) (hA : K32At w oa n P) (hB : K32At w ob n P) :
  Calls Tryz.prog 47 #[.agg (uvC s l (.slice oa n c) t), .agg (uvC s l (.slice ob n d) t)] w (Rt w (.bool true)) := by
 have HA : Hid (K32At w oa n P) := hA;have HB : Hid (K32At w ob n P) := hB;clear hA hB
 go_enter Tryz.func47, Tryz.ntmps47
 have hst := zqe3 32 t;go_wp2_with fail;have fa : zqd ((w.alloc (.cells (uvC s l (.slice oa n c) t) 83)).alloc (.cells (uvC s l (.slice ob n d) t) 83)) w.heap.size = some (.cells (uvC s l (.slice oa n c) t) 83) := zqj _ (zqg _ _ _ rfl);have fb : zqd ((w.alloc (.cells (uvC s l (.slice oa n c) t) 83)).alloc (.cells (uvC s l (.slice ob n d) t) 83)) (w.heap.size + 1) = some (.cells (uvC s l (.slice ob n d) t) 83) := zqg _ _ _ (by simp);have hG0 : Below w.heap.size w ((w.alloc (.cells (uvC s l (.slice oa n c) t) 83)).alloc (.cells (uvC s l (.slice ob n d) t) 83)) := Grew.alloc (Grew.alloc (Grew.refl _) _) _;have HA1 : Hid (K32At ((w.alloc (.cells (uvC s l (.slice oa n c) t) 83)).alloc (.cells (uvC s l (.slice ob n d) t) 83)) oa n P) := HA.out.later hG0
 have HB1 : Hid (K32At ((w.alloc (.cells (uvC s l (.slice oa n c) t) 83)).alloc (.cells (uvC s l (.slice ob n d) t) 83)) ob n P) := HB.out.later hG0;generalize (w.alloc (.cells (uvC s l (.slice oa n c) t) 83)).alloc (.cells (uvC s l (.slice ob n d) t) 83) = w1 at *;generalize w.heap.size + 1 = gb at *;have la0 := zqa fa;have lb0 := zqa fb
 go_loopw [37] (fun i wr => ∃ k : Nat, k <= n /\ i = .int .i64 k /\ (∃ m, wr = more w1 m)) (fun i _ => n - (intOf i).toNat)
 case atStart => exact ⟨0, by omega, rfl, ⟨⟨w1.drawn, #[]⟩, by simp [more]⟩⟩
 case round =>
  obtain ⟨i, hi, rfl, ⟨m, rfl⟩⟩ := hrel;have fa1 := zqp m fa;have fb1 := zqp m fb;have la := zqa fa1;have lb := zqa fb1
  by_cases hlt : i < n
  ·have hi1 : (i : Int) < (n : Int) := by omega
   have hi0 : (0 : Int) <= (i : Int) := by omega
   obtain ⟨ad, rfl⟩ := HA1.out.addr (by omega);obtain ⟨bd, rfl⟩ := HB1.out.addr (by omega);have l1 := fun q : More => HA1.out.loadB hlt (zqm w1 q);have l2 := fun q : More => HB1.out.loadB hlt (zqm w1 q);have hsm := zqe3 32 (P i);generalize P i = y at *;go_wp2_with fail
   ((first | (with_reducible refine zq8 zqb zqb ?_) | refine zq1 zqb zqb ?_); (repeat (first | go_big_quiet_skip | (go_big_quiet_want; go_big_quiet_op; go_big_quiet_on))); refine wpQuiet_nil ?_; rintro _ ⟨mq, rfl⟩)
   clear l1 l2 fa1 fb1 la lb;go_wp2
   go_roundw
   case rel => first | exact ⟨i + 1, by omega, by go_num, ⟨mq, rfl⟩⟩ | ((repeat' apply Exists.intro) <;> first | exact ⟨⟨i + 1, by omega, by go_num, ⟨mq, rfl⟩⟩, rfl⟩ | exact undef)
   case measure => (simp [intOf]; omega)
  ·obtain rfl : i = n := by omega
   have hi1 : ¬ ((i : Int) < (i : Int)) := by omega
   go_wp2;go_ret;exact ⟨rfl, Grew.more hG0 _⟩
def KSlF (B n : Nat) (u : Value) : Prop := ∃ oa c, u = .slice oa n c /\ ∀ ad, oa = some ad -> B <= ad.block
def UpAt (w : World) (v : Value) (s l : Int) (n : Nat) (P : Nat -> Nat -> Int) (t : Nat -> Int) : Prop := ∃ oa c, v = .agg (uvC s l (.slice oa n c) t) /\ K32At w oa n P
theorem UpAt.later {w w' : World} {v : Value} {s l : Int} {n : Nat} {P : Nat -> Nat -> Int} {t : Nat -> Int} (h : UpAt w v s l n P t) (hb : Below w.heap.size w w') : UpAt w' v s l n P t := by
 obtain ⟨oa, c, e, hp⟩ := h;exact ⟨oa, c, e, hp.later hb⟩
theorem of19_any (s l : Int) (oa : Option Addr) (n c : Nat) (t : Nat -> Int) (P : Nat -> Nat -> Int) (w : World) (hn : n <= 1000) (hP : K32At w oa n P) :
  Calls Tryz.prog 36 #[.agg (uvC s l (.slice oa n c) t)] w fun e w' => ∃ v, e = .returned (v) /\ UpAt w' v s l n P t /\ Below w.heap.size w w' := by
 have HP : Hid (K32At w oa n P) := hP;clear hP
 go_enter Tryz.func36, Tryz.ntmps36
 go_wp2_with fail;have fb : zqd ((w.alloc (.cells (uvC s l (.slice oa n c) t) 81)).alloc (.cells (uvC 0 0 (.slice none 0 0) zqe) 83)) w.heap.size = some (.cells (uvC s l (.slice oa n c) t) 81) := zqj _ (zqg _ _ _ rfl);have fr : zqd ((w.alloc (.cells (uvC s l (.slice oa n c) t) 81)).alloc (.cells (uvC 0 0 (.slice none 0 0) zqe) 83)) (w.heap.size + 1) = some (.cells (uvC 0 0 (.slice none 0 0) zqe) 83) := zqg _ _ _ (by simp);have hG : Below w.heap.size w ((w.alloc (.cells (uvC s l (.slice oa n c) t) 81)).alloc (.cells (uvC 0 0 (.slice none 0 0) zqe) 83)) := Grew.alloc (Grew.alloc (Grew.refl _) _) _;generalize (w.alloc (.cells (uvC s l (.slice oa n c) t) 81)).alloc (.cells (uvC 0 0 (.slice none 0 0) zqe) 83) = w1 at *;have hgr : w.heap.size <= w.heap.size + 1 := by omega
 generalize w.heap.size + 1 = gr at *;have lb := zqa fb;have lr := zqa fr;have cK := fun (W : World) (hb : Below w1.heap.size w1 W) => zqr6 oa n c P W hn ((HP.out.later hG).later hb);refine zqi2 (fun k => k == 6) (fun k => match k with | 6 => fun u => KSlF w1.heap.size n u | _ => fun _ => True) (fun k => match k with | 6 => fun u w => KAt n P u w | _ => fun _ _ => True) (fun k => match k with | 6 => .slice none n 0 | _ => undef) (fun i hi => ?_) 10 zqb zqb zqb zqb zqb ?_
 ·simp only [Bool.or_eq_true, beq_iff_eq] at hi
  subst hi;exact ⟨none, 0, rfl, fun _ h => by cases h⟩
 simp only [List.take_succ_cons, List.take_zero]
 iterate 6 (first | refine zqs rfl ?_ | (refine zqn rfl ?_; apply Exists.intro))
 refine zqn rfl ⟨undef, ?_⟩
 iterate 3 (first | refine zqs rfl ?_ | (refine zqn rfl ?_; apply Exists.intro))
 refine zqbn ?_
 intro γ gv hsv hinj hbase;obtain ⟨ob, d, e1, hob⟩ := hsv 6 rfl
 (repeat (first | (refine zqt rfl ?_; ((first | go_big_quiet_skip | (go_big_quiet_want; go_big_quiet_op; go_big_quiet_on)); refine wpQuiet_nil ?_)) | ((first | refine zql rfl (fun _ => rfl) ?_ | (apply zq4; (focus rfl); (focus rfl); (focus rfl); (focus (intro W hC hF; (skip); go_big_quiet_want; go_big_quiet_op; (first | go_big_quiet_on | (apply Exists.intro; refine ⟨fun _ => ?_, ?_⟩; (focus ((fail))); go_big_quiet_on)); exact wpQuiet_nil rfl)); (focus (first | exact fun _ => ⟨rfl, rfl⟩ | exact fun h => absurd h (by decide))))); ((first | go_big_quiet_skip | (go_big_quiet_want; go_big_quiet_op; go_big_quiet_on)); refine wpQuiet_nil ?_)) | refine zqk rfl (fun _ => rfl) ?_))
 refine zqah #[.slice oa n c] (enters_of Tryz.func74 zqb rfl) rfl e1 rfl rfl rfl rfl (zqbo (zqc7 _ _ _)) (by first | kernel_rfl | simp [go_sem]) ?_ ?_
 ·intro W hC hF
  obtain ⟨mm, rfl⟩ := hC;refine (cK _ (zqm w1 mm)).mono ?_
  rintro e w9 ⟨ob9, cb9, rfl, hK9, hB9, hb9⟩;exact ⟨_, rfl, ⟨_, _, rfl, fun ad e => Nat.le_trans (zqm w1 mm).size (hB9 ad e)⟩, (fun oa2 c2 e2 => by cases e2; exact hK9), hb9⟩
 ((first | go_big_quiet_skip | (go_big_quiet_want; go_big_quiet_op; go_big_quiet_on)); refine wpQuiet_nil ?_)
 (repeat (first | (refine zqt rfl ?_; ((first | go_big_quiet_skip | (go_big_quiet_want; go_big_quiet_op; go_big_quiet_on)); refine wpQuiet_nil ?_)) | ((first | refine zql rfl (fun _ => rfl) ?_ | (apply zq4; (focus rfl); (focus rfl); (focus rfl); (focus (intro W hC hF; (skip); go_big_quiet_want; go_big_quiet_op; (first | go_big_quiet_on | (apply Exists.intro; refine ⟨fun _ => ?_, ?_⟩; (focus ((fail))); go_big_quiet_on)); exact wpQuiet_nil rfl)); (focus (first | exact fun _ => ⟨rfl, rfl⟩ | exact fun h => absurd h (by decide))))); ((first | go_big_quiet_skip | (go_big_quiet_want; go_big_quiet_op; go_big_quiet_on)); refine wpQuiet_nil ?_)) | refine zqk rfl (fun _ => rfl) ?_))
 (refine zqge ?_; rintro _ ⟨mq, rfl⟩ hF; simp only [List.forall_mem_cons] at hF; obtain ⟨f6, -⟩ := hF)
 have hK6 := hid1 (f6 _ _ rfl);replace hG := Grew.more hG mq;replace fr := zqp mq fr;clear f6 hinj hbase hsv e1 lb cK fb;replace hob : Hid (∀ ad, ob = some ad -> ad.block = gr -> False) := fun ad e eb => by have := hob ad e; omega
 clear lr;generalize more w1 mq = w2 at *;clear γ gv;have lr := zqa fr
 (refine zqr (i := 10) (fuel := 0) zqb rfl ?_; intro K hK; go_simp; refine hK _ _ ?_; clear hK K)
 (refine wpAny_done zqb ?_ _)
 go_wp2;refine zqan rfl _ 83 _ (0, 0) _ rfl (zqw _ fr) Tryz.underlying83 rfl (by rw [uvC_size]; kernel_rfl) rfl ?_
 first | exact ⟨_, rfl, ⟨_, _, rfl, hK6.out.aside fr hob.out _⟩, Grew.setRow hG _ _ hgr⟩ | exact ⟨⟨_, rfl⟩, ⟨_, _, rfl, hK6.out.aside fr hob.out _⟩, Grew.setRow hG _ _ hgr⟩
end Go.Proofs.YtpefpiobcpdeoaaGreatDoor
namespace Go.Proofs.YtpefpiobcpdeoaaGreatDoor
open Go.RowKit Go.Extern
theorem uparse_walk (S S1 S2 S3 S4 S5 : ByteArray) (E0 E1 E2 E3 E4 E5 st lf X : Int) (n : Nat) (P : Nat -> Nat -> Int) (t : Nat -> Int) (w : World) (hE0 : E0 = if S.size < 9 then 1 else 0) (cH : ∀ (g : Nat) (W : World), RdAt W g S E0 -> Calls Tryz.prog 66 #[.pointer (some ⟨g, 0, none⟩), .int .u64 3] W fun e w' => e = .returned (.tuple #[]) /\ RdAt w' g S1 E1 /\ Oth g W w') (cN4 : ∀ (g : Nat) (W : World), RdAt W g S1 E1 -> Calls Tryz.prog 67 #[.pointer (some ⟨g, 0, none⟩), .int .i64 4] W fun e w' => e = .returned (.int .u64 st) /\ RdAt w' g S2 E2 /\ Oth g W w') (cN2 : ∀ (g : Nat) (W : World), RdAt W g S2 E2 -> Calls Tryz.prog 67 #[.pointer (some ⟨g, 0, none⟩), .int .i64 2] W fun e w' => e = .returned (.int .u64 lf) /\ RdAt w' g S3 E3 /\ Oth g W w') (cP : ∀ (g : Nat) (W : World), RdAt W g S3 E3 -> Calls Tryz.prog 99 #[.pointer (some ⟨g, 0, none⟩)] W fun e w' => ∃ oa c, e = .returned (.slice oa n c) /\ K32At w' oa n P /\ (∀ ad, oa = some ad -> W.heap.size <= ad.block) /\ RdAt w' g S4 E4 /\ Oth g W w') (cK : ∀ (g : Nat) (W : World), RdAt W g S4 E4 -> Calls Tryz.prog 91 #[.pointer (some ⟨g, 0, none⟩)] W fun e w' => e = .returned (.agg (ints .u8 32 t)) /\ RdAt w' g S5 E5 /\ Oth g W w') (hst : 0 <= st /\ st < 4294967296) (hlf : 0 <= lf /\ lf < 65536) (hX : X = enE S5 E5) :
  Calls Tryz.prog 45 #[.string S] w fun e w' => ∃ v u, e = .returned (.tuple #[v, u]) /\ UpAt w' v (if X = 0 then st else 0) (if X = 0 then lf else 0) (if X = 0 then n else 0) (P) (if X = 0 then t else zqe) /\ ErV w' u (X) /\ Below w.heap.size w w' := by
 have hsw : IntKind.u32.wrap st = st := by rw [IntKind.wrap_u32]; omega
 have hlw : IntKind.u16.wrap lf = lf := by rw [IntKind.wrap_u16]; omega
 replace hX := hid1 hX;replace hE0 := hid1 hE0
 go_enter Tryz.func45, Tryz.ntmps45
 go_wp2_with fail;refine (zqzf _ _).mono ?_
 rintro e w1 ⟨rfl, rfl⟩;have fr : zqd ((w.alloc (.cells (uvC 0 0 (.slice none 0 0) zqe) 81)).alloc (.cells #[.string S, .nilIface] 184)) w.heap.size = some (.cells (uvC 0 0 (.slice none 0 0) zqe) 81) := zqj _ (zqg _ _ _ rfl);have HR := hid1 (RdAt.over (w.alloc (.cells (uvC 0 0 (.slice none 0 0) zqe) 81)) S);have hG : Below w.heap.size w ((w.alloc (.cells (uvC 0 0 (.slice none 0 0) zqe) 81)).alloc (.cells #[.string S, .nilIface] 184)) := Grew.alloc (Grew.alloc (Grew.refl _) _) _;have hz : (w.alloc (.cells (uvC 0 0 (.slice none 0 0) zqe) 81)).heap.size = w.heap.size + 1 := by simp
 rw [hz] at HR;go_wp2_with fail;generalize (w.alloc (.cells (uvC 0 0 (.slice none 0 0) zqe) 81)).alloc (.cells #[.string S, .nilIface] 184) = w1 at *;have hne : w.heap.size ≠ w.heap.size + 1 := by omega
 have hgl : w.heap.size <= w.heap.size + 1 := by omega
 clear hz;generalize w.heap.size + 1 = g at *;refine (zq7v HR.out).mono ?_
 rintro e w1 ⟨rfl, rfl⟩;refine zra9 (S.size < 9) ?ga ?gb
 case' ga =>
  intro hs;have hsi : (S.size : Int) < 9 := by omega
  have q0 : E0 = 1 := by rw [hE0.out, if_pos hs]
  go_wp2_with fail;refine (zql4 _ HR.out (ErV.num _ 1 (by decide))).mono ?_
  rintro e w2 ⟨rfl, HR2, HO⟩;rw [if_pos rfl, <- q0] at HR2;replace HR := hid1 HR2;replace fr := HO.keep fr hne;replace hG := HO.below hG hgl;clear HR2 HO;go_wp2_with fail
 case' gb =>
  intro hs;have hsi : ¬ ((S.size : Int) < 9) := by omega
  have q0 : E0 = 0 := by rw [hE0.out, if_neg hs]
  rw [<- q0] at HR;obtain ⟨w2, rfl⟩ : ∃ x, x = w1 := ⟨_, rfl⟩
  go_wp2_with fail
 all_goals
  refine (cH _ _ HR.out).mono ?_
  rintro e w3 ⟨rfl, HR3, HO⟩;replace fr := HO.keep fr hne;replace hG := HO.below hG hgl;replace HR := hid1 HR3;clear HR3 HO;go_wp2_with fail;refine (cN4 _ _ HR.out).mono ?_
  rintro e w4 ⟨rfl, HR3, HO⟩;replace fr := HO.keep fr hne;replace hG := HO.below hG hgl;replace HR := hid1 HR3;clear HR3 HO;go_wp2_with fail;refine (cN2 _ _ HR.out).mono ?_
  rintro e w5 ⟨rfl, HR3, HO⟩;replace fr := HO.keep fr hne;replace hG := HO.below hG hgl;replace HR := hid1 HR3;clear HR3 HO;go_wp2_with fail;have hgw := zqa fr;refine (cP _ _ HR.out).mono ?_
  rintro e w6 ⟨oa, c, rfl, hP, hoa, HR3, HO⟩;have hob : Hid (∀ ad, oa = some ad -> ad.block ≠ w.heap.size) := fun ad e => by have := hoa ad e; omega
  have HP := hid1 hP;clear hoa hP hgw;replace fr := HO.keep fr hne;replace hG := HO.below hG hgl;replace HR := hid1 HR3;clear HR3 HO;go_wp2_with fail;refine (cK _ _ HR.out).mono ?_
  rintro e w7 ⟨rfl, HR3, HO⟩;replace HP := hid1 (HO.keys HR.out HP.out);replace fr := HO.keep fr hne;replace hG := HO.below hG hgl;replace HR := hid1 HR3;clear HR3 HO;go_wp2_with fail;have fb : zqd (w7.alloc (.cells (uvC st lf (.slice oa n c) t) 81)) w7.heap.size = some (.cells (uvC st lf (.slice oa n c) t) 81) := zqg _ _ _ rfl;replace fr := zqj (.cells (uvC st lf (.slice oa n c) t) 81) fr;replace hG := Grew.alloc hG (.cells (uvC st lf (.slice oa n c) t) 81);replace HR := hid1 (RdAt.later HR.out (Grew.alloc (Grew.refl w7) (.cells (uvC st lf (.slice oa n c) t) 81)));replace HP := hid1 (HP.out.later (Grew.alloc (Grew.refl w7) (.cells (uvC st lf (.slice oa n c) t) 81)));generalize w7.alloc (.cells (uvC st lf (.slice oa n c) t) 81) = w8 at *;generalize w7.heap.size = gb at *;refine (zref HR.out).mono ?_
  rintro e w9 ⟨u, rfl, hu, hb⟩;rw [<- hX.out] at hu;replace fr := zqc hb fr;replace fb := zqc hb fb;replace hG := Grew.trans hG hb;replace HP := hid1 (HP.out.later hb);have hfv := hid1 hu;clear hu hb HR;have lfb := zqa fb;have lfr := zqa fr
  by_cases hX0 : X = 0
  ·rw [hX0] at hfv
   rcases hfv with ⟨-, rfl⟩ | ⟨h0, -⟩
   ·have HP9 := hid1 (HP.out.aside fr (fun ad e => hob.out ad e) (uvC st lf (.slice oa n c) t))
    go_wp2;refine zqaw rfl _ 81 (uvC st lf (.slice oa n c) t) (0, 0) _ _ rfl rfl (zqw _ fr) Tryz.underlying81 rfl (by rw [uvC_size]; kernel_rfl) rfl ?_
    exact ⟨_, _, rfl, by first | exact ⟨oa, c, rfl, HP9.out⟩ | (rw [if_pos hX0, if_pos hX0, if_pos hX0, if_pos hX0]; exact ⟨oa, c, rfl, HP9.out⟩), .inl ⟨by first | rfl | exact hX0, rfl⟩, Grew.setRow hG _ _ (Nat.le_refl _)⟩
   ·exact absurd rfl h0
  ·obtain ⟨t', x, rfl, hw⟩ := hfv.out.wrap hX0
   go_wp2_with fail;refine (wrap_any _ _ _ _).mono ?_
   rintro e w10 ⟨rfl, rfl⟩;have hw9 := hid1 (hw ⟨#[117, 112, 100, 97, 116, 101]⟩);replace fr := zqj (.cells #[.string ⟨#[117, 112, 100, 97, 116, 101]⟩, .iface t' x] 190) fr;replace hG := Grew.alloc hG (.cells #[.string ⟨#[117, 112, 100, 97, 116, 101]⟩, .iface t' x] 190);clear hw lfb lfr;generalize (Value.iface 188 (.pointer (some ⟨w9.heap.size, 0, none⟩))) = fv at *;generalize w9.alloc (.cells #[.string ⟨#[117, 112, 100, 97, 116, 101]⟩, .iface t' x] 190) = w10 at *;have lfr := zqa fr;go_wp2;refine zqaw rfl _ 81 (uvC 0 0 (.slice none 0 0) zqe) (0, 0) _ _ rfl rfl (zqw _ fr) Tryz.underlying81 rfl (by rw [uvC_size]; kernel_rfl) rfl ?_
   exact ⟨_, _, rfl, by first | (rw [if_neg hX0, if_neg hX0, if_neg hX0, if_neg hX0]; exact ⟨none, 0, rfl, .inl rfl⟩) | exact ⟨none, 0, rfl, .inl rfl⟩, hw9.out.put fr (by decide) _, Grew.setRow hG _ _ (Nat.le_refl _)⟩
theorem publics_no {g : Nat} {S S1 : ByteArray} {E E1 : Int} {N : Nat} {w : World} (E3 : Int) (h3 : (if E1 = 0 then 6 else E1) = E3) (hS : tkS S E 1 = S1) (hE : tkE S E 1 = E1) (hV : beK (tkT S E 1) (tkT S E 1).size = (N : Int)) (hR : RdAt w g S E) (hN : ¬ (1 <= N /\ N <= 10)) (hb : N <= 255) :
  Calls Tryz.prog 99 #[.pointer (some ⟨g, 0, none⟩)] w fun e w' => e = .returned (.slice none 0 0) /\ RdAt w' g (S1) (E3) /\ Oth g w w' := by
 replace h3 := hid1 h3;have e2 : min (max (1 : Int) 0) 8 = 1 := by decide
 have cN := zqmw 1 hR;rw [e2, hS, hE, hV] at cN;clear hS hE hV e2
 go_enter Tryz.func99, Tryz.ntmps99
 go_wp2_with fail;refine cN.mono ?_
 rintro e w1 ⟨rfl, HR, HO⟩;replace HR := hid1 HR;clear cN hR;have hNw : IntKind.i64.wrap (N : Int) = (N : Int) := wrap_small (by omega) (by omega);have hc := fun W => counted_no (N : Int) W (by omega);go_wp2_with fail;refine (hc _).mono ?_
 rintro e w2 ⟨rfl, hb⟩;replace HR := hid1 (HR.out.later hb);replace HO := HO.later hb;go_wp2_with fail;refine (zql4 _ HR.out (ErV.num _ 6 (by decide))).mono ?_
 rintro e w3 ⟨rfl, HR2, HO2⟩;rw [h3.out] at HR2;go_wp2;go_ret;exact ⟨rfl, HR2, HO.trans HO2⟩
theorem publics_yes {g : Nat} {S S1 : ByteArray} {E E1 : Int} {N : Nat} {w : World} (hS : tkS S E 1 = S1) (hE : tkE S E 1 = E1) (hV : beK (tkT S E 1) (tkT S E 1).size = (N : Int)) (hR : RdAt w g S E) (hN : 1 <= N /\ N <= 10) (hz : S1.size <= 30000) :
  Calls Tryz.prog 99 #[.pointer (some ⟨g, 0, none⟩)] w fun e w' => ∃ oa c, e = .returned (.slice oa ((tkT S1 E1 (ksN S1 N)).size / 32) c) /\ K32At w' oa ((tkT S1 E1 (ksN S1 N)).size / 32) (fun i j => byteAt (tkT S1 E1 (ksN S1 N)) (32 * i + j)) /\ (∀ ad, oa = some ad -> w.heap.size <= ad.block) /\ RdAt w' g (tkS S1 E1 (ksN S1 N)) (tkE S1 E1 (ksN S1 N)) /\ Oth g w w' := by
 have e2 : min (max (1 : Int) 0) 8 = 1 := by decide
 have cN := zqmw 1 hR;rw [e2, hS, hE, hV] at cN;clear hS hE hV e2
 go_enter Tryz.func99, Tryz.ntmps99
 go_wp2_with fail;refine cN.mono ?_
 rintro e w1 ⟨rfl, HR, HO⟩;replace HR := hid1 HR;clear cN hR;have hNw : IntKind.i64.wrap (N : Int) = (N : Int) := wrap_small (by omega) (by omega);have hc := fun W => counted_yes (N : Int) W (by omega);go_wp2_with fail;refine (hc _).mono ?_
 rintro e w2 ⟨rfl, hb⟩;replace HR := hid1 (HR.out.later hb);replace HO := HO.later hb;have hsz := HO.size;have cK := zq3s (N : Int) HR.out hz;go_wp2_with fail;refine cK.mono ?_
 rintro e w3 ⟨oa, c, rfl, hK, hB, HR2, HO2⟩;replace hK := hid1 hK;replace HR2 := hid1 HR2;replace hB := hid1 hB;clear cK HR;go_wp2;go_ret;exact ⟨oa, c, rfl, hK.out, fun ad e => Nat.le_trans hsz (hB.out ad e), HR2.out, HO.trans HO2⟩
end Go.Proofs.YtpefpiobcpdeoaaGreatDoor
namespace Go.Proofs.YtpefpiobcpdeoaaGreatDoor
open Go.RowKit Go.Extern
theorem uvC_congr {s l : Int} {b : Value} {t t' : Nat -> Int} (h : ∀ i, i < 32 -> t i = t' i) : uvC s l b t = uvC s l b t' := by
 unfold uvC;rw [zqa6 h]
theorem UpAt.congr {w : World} {v : Value} {s l : Int} {n : Nat} {P P' : Nat -> Nat -> Int} {t t' : Nat -> Int} (h : UpAt w v s l n P t) (hP : ∀ j, j < n -> ∀ i, i < 32 -> P j i = P' j i) (ht : ∀ i, i < 32 -> t i = t' i) : UpAt w v s l n P' t' := by
 obtain ⟨oa, c, rfl, hp⟩ := h;exact ⟨oa, c, by rw [uvC_congr ht], hp.congr2 hP⟩
theorem UpAt.zero {w : World} {v : Value} {P P' : Nat -> Nat -> Int} {t : Nat -> Int} (h : UpAt w v 0 0 0 P t) : UpAt w v 0 0 0 P' t := by
 obtain ⟨oa, c, rfl, -⟩ := h;exact ⟨oa, c, rfl, .inl rfl⟩
theorem ksN_lo (S : ByteArray) (n : Nat) (h : 32 * n <= S.size) : ksN S (n : Int) = ((32 * n : Nat) : Int) := by unfold ksN; omega
theorem ksN_hi (S : ByteArray) (n : Nat) (h : S.size < 32 * n) : ∃ k : Nat, ksN S (n : Int) = (k : Int) /\ S.size < k := ⟨(S.size / 32 + 1) * 32, by unfold ksN; omega, by omega⟩
theorem en_bad (S : ByteArray) {E : Int} (h : E ≠ 0) : enE S E = E := by unfold enE; rw [if_neg (fun h2 => h h2.1)]
theorem tk_ext (S : ByteArray) (a k : Nat) (ha : a <= S.size) (h : S.size - a < k) : tkT (S.extract a S.size) 0 (k : Int) = ⟨#[]⟩ /\ tkS (S.extract a S.size) 0 (k : Int) = S.extract a S.size /\ tkE (S.extract a S.size) 0 (k : Int) = 1 := by
 have hs : (S.extract a S.size).size = S.size - a := by rw [ByteArray.size_extract]; omega
 obtain ⟨e1, e2⟩ := zq6o (S := S.extract a S.size) (E := 0) (n := (k : Int)) (.inr (by omega));exact ⟨e1, e2, zrd8 _ k (by omega)⟩
theorem uparse_any (S : ByteArray) (w : World) (hS : S.size <= 30000) :
  Calls Tryz.prog 45 #[.string S] w fun e w' => ∃ v u, e = .returned (.tuple #[v, u]) /\ UpAt w' v (if ucE S = 0 then uSt S else 0) (if ucE S = 0 then uLf S else 0) (if ucE S = 0 then uN S else 0) (uPk S) (if ucE S = 0 then uTg S else zqe) /\ ErV w' u (ucE S) /\ Below w.heap.size w w' := by
 have hbad : ∀ (E0 E1 : Int) (S1 : ByteArray), E0 = (if S.size < 9 then 1 else 0) -> E1 ≠ 0 -> tkS S E0 2 = S1 -> hd3 (hd2 (tkE S E0 2) (beK (tkT S E0 2) (tkT S E0 2).size)) (beK (tkT S E0 2) (tkT S E0 2).size) 3 = E1 -> ucE S = E1 ->
   Calls Tryz.prog 45 #[.string S] w fun e w' => ∃ v u, e = .returned (.tuple #[v, u]) /\ UpAt w' v (if ucE S = 0 then uSt S else 0) (if ucE S = 0 then uLf S else 0) (if ucE S = 0 then uN S else 0) (uPk S) (if ucE S = 0 then uTg S else zqe) /\ ErV w' u (ucE S) /\ Below w.heap.size w w' := fun E0 E1 S1 h0 h1 hs he hp => by
  obtain ⟨a1, a2, a3⟩ := zqma (S := S1) (E := E1) 4 h1;obtain ⟨c1, c2, c3⟩ := zqma (S := S1) (E := E1) 2 h1;obtain ⟨b1, b2, b3⟩ := zqma (S := S1) (E := E1) 1 h1;obtain ⟨k1, k2, k3⟩ := zqma (S := S1) (E := E1) 32 h1;have z4 : beK (⟨#[]⟩ : ByteArray) (⟨#[]⟩ : ByteArray).size = 0 := rfl;have := uparse_walk S S1 S1 S1 S1 S1 E0 E1 E1 E1 E1 E1 0 0 (ucE S) 0 (uPk S) _ w h0
   (fun g W hR => by have h := zqyd 3 hR; rw [hs, he] at h; exact h)
   (fun g W hR => by
    have h := zqmw 4 hR;rw [show min (max (4 : Int) 0) 8 = 4 by decide, a1, a2, a3, z4] at h;exact h)
   (fun g W hR => by
    have h := zqmw 2 hR;rw [show min (max (2 : Int) 0) 8 = 2 by decide, c1, c2, c3, z4] at h;exact h)
   (fun g W hR => (publics_no (N := 0) E1 (by rw [if_neg h1]) b2 b3 (by rw [b1]; rfl) hR (by omega) (by omega)).mono fun e w' ⟨e1, e2, e3⟩ => ⟨none, 0, e1, .inl rfl, fun ad h => (by cases h), e2, e3⟩)
   (fun g W hR => by
    have h := zqro hR;rw [k1, k2, k3] at h;exact h)
   ⟨by decide, by decide⟩ ⟨by decide, by decide⟩ (by rw [en_bad _ h1, hp])
  refine this.mono ?_
  rintro e w' ⟨v, u, he, hB, hu, hb⟩;refine ⟨v, u, he, ?_, hu, hb⟩;have hz : ¬ (ucE S = 0) := by rw [hp]; exact h1
  simp only [if_neg hz] at hB ⊢
  exact hB.zero
 by_cases c1 : S.size < 9
 ·obtain ⟨a1, a2, a3⟩ := zqma (S := S) (E := 1) 2 (by decide)
  refine hbad 1 1 S (by rw [if_pos c1]) (by decide) a2 ?_ (by unfold ucE; rw [if_pos c1])
  rw [a1, a3]
  rfl
 obtain ⟨a1, a2, a3⟩ := zqw7 S 0 2 (by omega);rw [zqty] at a1 a2 a3;have hb0 := zqc6 S 0;have hb1 := zqc6 S 1;have hb8 := zqc6 S 8;have hV := zq80 S (by omega);have q1 : (byteAt S 0 * 256 + byteAt S 1) / 256 = byteAt S 0 := by omega
 have q2 : (byteAt S 0 * 256 + byteAt S 1) % 256 = byteAt S 1 := by omega
 have hE0 : (0 : Int) = if S.size < 9 then 1 else 0 := by rw [if_neg c1]
 have hH : hd3 (hd2 (tkE S 0 2) (beK (tkT S 0 2) (tkT S 0 2).size)) (beK (tkT S 0 2) (tkT S 0 2).size) 3 = if byteAt S 0 = 1 then (if byteAt S 1 = 3 then 0 else 14) else 3 := by
  rw [show (2 : Int) = ((2 : Nat) : Int) from rfl, a1, a3, hV];unfold hd3 hd2;rw [q1, q2]
  by_cases h0 : byteAt S 0 = 1 <;> by_cases h1 : byteAt S 1 = 3 <;> simp [h0, h1]
 have hS1 : tkS S 0 2 = S.extract 2 S.size := by
  rw [show (2 : Int) = ((2 : Nat) : Int) from rfl, a2]
 by_cases c2 : byteAt S 0 = 1
 case neg =>
  refine hbad 0 3 _ hE0 (by decide) hS1 (by rw [hH, if_neg c2]) ?_
  unfold ucE; rw [if_neg c1, if_pos c2]
 by_cases c3 : byteAt S 1 = 3
 case neg =>
  refine hbad 0 14 _ hE0 (by decide) hS1 (by rw [hH, if_pos c2, if_neg c3]) ?_
  unfold ucE; rw [if_neg c1, if_neg (fun h => h c2), if_pos c3]
 rw [if_pos c2, if_pos c3] at hH;obtain ⟨b1, b2, b3⟩ := zqw7 S 2 4 (by omega);obtain ⟨d1, d2, d3⟩ := zqw7 S 6 2 (by omega);obtain ⟨f1, f2, f3⟩ := zqw7 S 8 1 (by omega);have hn8 : ((uN S : Nat) : Int) = byteAt S 8 := by unfold uN; omega
 obtain ⟨n, hn⟩ : ∃ n, uN S = n := ⟨_, rfl⟩
 rw [hn] at hn8;have cH : ∀ (g : Nat) (W : World), RdAt W g S 0 -> Calls Tryz.prog 66 #[.pointer (some ⟨g, 0, none⟩), .int .u64 3] W fun e w' => e = .returned (.tuple #[]) /\ RdAt w' g (S.extract 2 S.size) 0 /\ Oth g W w' := fun g W hR => by
  have h := zqyd 3 hR;rw [hS1, hH] at h;exact h
 have cN4 : ∀ (g : Nat) (W : World), RdAt W g (S.extract 2 S.size) 0 -> Calls Tryz.prog 67 #[.pointer (some ⟨g, 0, none⟩), .int .i64 4] W fun e w' => e = .returned (.int .u64 (uSt S)) /\ RdAt w' g (S.extract 6 S.size) 0 /\ Oth g W w' := fun g W hR => by
  have h := zqmw 4 hR;rw [show min (max (4 : Int) 0) 8 = ((4 : Nat) : Int) by decide, b1, b2, b3] at h;exact h
 have cN2 : ∀ (g : Nat) (W : World), RdAt W g (S.extract 6 S.size) 0 -> Calls Tryz.prog 67 #[.pointer (some ⟨g, 0, none⟩), .int .i64 2] W fun e w' => e = .returned (.int .u64 (uLf S)) /\ RdAt w' g (S.extract 8 S.size) 0 /\ Oth g W w' := fun g W hR => by
  have h := zqmw 2 hR;rw [show min (max (2 : Int) 0) 8 = ((2 : Nat) : Int) by decide, d1, d2, d3] at h;exact h
 have hPs : tkS (S.extract 8 S.size) 0 1 = S.extract 9 S.size := f2;have hPe : tkE (S.extract 8 S.size) 0 1 = 0 := f3;have hPv : beK (tkT (S.extract 8 S.size) 0 1) (tkT (S.extract 8 S.size) 0 1).size = (n : Int) := by
  rw [show (1 : Int) = ((1 : Nat) : Int) from rfl, f1, beK_byte S 8 (by omega)];exact hn8.symm
 have hs9 : (S.extract 9 S.size).size = S.size - 9 := by rw [ByteArray.size_extract]; omega
 have huc : ∀ x, (if n < 1 \/ 10 < n then (6 : Int) else if S.size < 41 + 32 * n then 1 else if 41 + 32 * n < S.size then 2 else 0) = x -> ucE S = x := fun x h => by
  unfold ucE;rw [if_neg c1, if_neg (fun h => h c2), if_neg (fun h => h c3), hn];exact h
 by_cases c4 : 1 <= n /\ n <= 10
 case neg =>
  have hp : ucE S = 6 := huc 6 (by rw [if_pos (by omega)]);obtain ⟨k1, k2, k3⟩ := zqma (S := S.extract 9 S.size) (E := 6) 32 (by decide);have := uparse_walk S _ _ _ (S.extract 9 S.size) (S.extract 9 S.size) 0 0 0 0 6 6 (uSt S) (uLf S) (ucE S) 0 (uPk S) _ w hE0 cH cN4 cN2
   (fun g W hR => (publics_no 6 (by rw [if_pos rfl]) hPs hPe hPv hR c4 (by omega)).mono fun e w' ⟨e1, e2, e3⟩ => ⟨none, 0, e1, .inl rfl, fun ad h => (by cases h), e2, e3⟩)
   (fun g W hR => by
    have h := zqro hR;rw [k1, k2, k3] at h;exact h)
   (uSt_bd S) (uLf_bd S) (by rw [en_bad _ (by decide), hp])
  refine this.mono ?_
  rintro e w' ⟨v, u, he, hB, hu, hb⟩;refine ⟨v, u, he, ?_, hu, hb⟩;have hz : ¬ (ucE S = 0) := by rw [hp]; decide
  simp only [if_neg hz] at hB ⊢
  exact hB.zero
 have cP := fun (g : Nat) (W : World) (hR : RdAt W g (S.extract 8 S.size) 0) => publics_yes hPs hPe hPv hR c4 (by omega)
 by_cases c5 : S.size < 9 + 32 * n
 ·have hp : ucE S = 1 := huc 1 (by rw [if_neg (by omega), if_pos (by omega)])
  obtain ⟨k, hk, hlt⟩ := ksN_hi (S.extract 9 S.size) n (by omega);obtain ⟨g1, g2, g3⟩ := tk_ext S 9 k (by omega) (by omega);rw [hk, g1, g2, g3] at cP;obtain ⟨k1, k2, k3⟩ := zqma (S := S.extract 9 S.size) (E := 1) 32 (by decide);have := uparse_walk S _ _ _ (S.extract 9 S.size) (S.extract 9 S.size) 0 0 0 0 1 1 (uSt S) (uLf S) (ucE S) _ _ _ w hE0 cH cN4 cN2 cP
   (fun g W hR => by
    have h := zqro hR;rw [k1, k2, k3] at h;exact h)
   (uSt_bd S) (uLf_bd S) (by rw [en_bad _ (by decide), hp])
  refine this.mono ?_
  rintro e w' ⟨v, u, he, hB, hu, hb⟩;refine ⟨v, u, he, ?_, hu, hb⟩;have hz : ¬ (ucE S = 0) := by rw [hp]; decide
  simp only [if_neg hz] at hB ⊢
  exact hB.zero
 obtain ⟨g1, g2, g3⟩ := zqw7 S 9 (32 * n) (by omega);have hT : (S.extract 9 (9 + 32 * n)).size / 32 = n := by rw [ByteArray.size_extract]; omega
 rw [ksN_lo (S.extract 9 S.size) n (by omega), g1, g2, g3, hT] at cP
 by_cases c6 : S.size < 41 + 32 * n
 ·have hp : ucE S = 1 := huc 1 (by rw [if_neg (by omega), if_pos (by omega)])
  obtain ⟨k1, k2, k3⟩ := tk_ext S (9 + 32 * n) 32 (by omega) (by omega);have k1' : tkT (S.extract (9 + 32 * n) S.size) 0 32 = ⟨#[]⟩ := k1;have k2' : tkS (S.extract (9 + 32 * n) S.size) 0 32 = S.extract (9 + 32 * n) S.size := k2;have k3' : tkE (S.extract (9 + 32 * n) S.size) 0 32 = 1 := k3;have := uparse_walk S _ _ _ _ (S.extract (9 + 32 * n) S.size) 0 0 0 0 0 1 (uSt S) (uLf S) (ucE S) _ _ _ w hE0 cH cN4 cN2 cP
   (fun g W hR => by
    have h := zqro hR;rw [k1', k2', k3'] at h;exact h)
   (uSt_bd S) (uLf_bd S) (by rw [en_bad _ (by decide), hp])
  refine this.mono ?_
  rintro e w' ⟨v, u, he, hB, hu, hb⟩;refine ⟨v, u, he, ?_, hu, hb⟩;have hz : ¬ (ucE S = 0) := by rw [hp]; decide
  simp only [if_neg hz] at hB ⊢
  exact hB.zero
 obtain ⟨k1, k2, k3⟩ := zqw7 S (9 + 32 * n) 32 (by omega);have k1' : tkT (S.extract (9 + 32 * n) S.size) 0 32 = S.extract (9 + 32 * n) (9 + 32 * n + 32) := k1;have k2' : tkS (S.extract (9 + 32 * n) S.size) 0 32 = S.extract (9 + 32 * n + 32) S.size := k2;have k3' : tkE (S.extract (9 + 32 * n) S.size) 0 32 = 0 := k3;have hsz : (S.extract (9 + 32 * n + 32) S.size).size = S.size - (9 + 32 * n + 32) := by rw [ByteArray.size_extract]; omega
 have hX : ucE S = enE (S.extract (9 + 32 * n + 32) S.size) 0 := by
  by_cases c7 : 41 + 32 * n < S.size
  ·rw [huc 2 (by rw [if_neg (by omega), if_neg (by omega), if_pos c7])]
   unfold enE;rw [if_pos ⟨rfl, by rw [hsz]; omega⟩]
  ·rw [huc 0 (by rw [if_neg (by omega), if_neg (by omega), if_neg c7])]
   unfold enE;rw [if_neg (fun h => h.2 (by rw [hsz]; omega))]
 have := uparse_walk S _ _ _ _ _ 0 0 0 0 0 0 (uSt S) (uLf S) (ucE S) _ _ _ w hE0 cH cN4 cN2 cP
  (fun g W hR => by
   have h := zqro hR;rw [k1', k2', k3'] at h;exact h)
  (uSt_bd S) (uLf_bd S) hX
 refine this.mono ?_
 rintro e w' ⟨v, u, he, hB, hu, hb⟩;refine ⟨v, u, he, ?_, hu, hb⟩;rw [hn]
 by_cases h0 : ucE S = 0
 ·simp only [if_pos h0] at hB ⊢
  refine hB.congr (fun j hj i hi => ?_) (fun i hi => ?_)
  ·show byteAt (S.extract 9 (9 + 32 * n)) (32 * j + i) = uPk S j i
   unfold uPk;rw [zqa1 _ _ _ _ (by omega) (by omega), Nat.add_assoc]
  ·unfold uTg putT
   rw [hn, if_pos ⟨Nat.zero_le _, by rw [ByteArray.size_extract]; omega⟩, Nat.sub_zero, zqa1 _ _ _ _ (by omega) (by omega)]
 ·simp only [if_neg h0] at hB ⊢
  exact hB.zero
end Go.Proofs.YtpefpiobcpdeoaaGreatDoor
namespace Go.Proofs.YtpefpiobcpdeoaaGreatDoor
open Go.RowKit Go.Extern
attribute [local go_sem high] zqfy
theorem rparse19_any (S : ByteArray) (w : World) (hS : S.size <= 100000) :
  Calls Tryz.prog 46 #[.string S] w fun e w' => ∃ v, e = .returned (.tuple #[v, .int .i64 (ucE S)]) /\ UpAt w' v (if ucE S = 0 then uSt S else 0) (if ucE S = 0 then uLf S else 0) (if ucE S = 0 then uN S else 0) (uPk S) (if ucE S = 0 then uTg S else zqe) /\ Below w.heap.size w w' := by
 go_enter Tryz.func46, Tryz.ntmps46
 have fr : zqd (w.alloc (.cells (uvC 0 0 (.slice none 0 0) zqe) 83)) w.heap.size = some (.cells (uvC 0 0 (.slice none 0 0) zqe) 83) := zqg _ _ _ rfl;have hG : Below w.heap.size w (w.alloc (.cells (uvC 0 0 (.slice none 0 0) zqe) 83)) := Grew.alloc (Grew.refl _) _
 by_cases c1 : S.size < 9
 ·have c1i : (S.size : Int) < 9 := by omega
  have hp : ucE S = 1 := by unfold ucE; rw [if_pos c1]
  rw [hp, if_neg (by decide), if_neg (by decide), if_neg (by decide), if_neg (by decide)];go_wp2;refine zqaw rfl _ 83 (uvC 0 0 (.slice none 0 0) zqe) (0, 0) _ _ rfl rfl (by exact zqh) Tryz.underlying83 rfl (by rw [uvC_size]; kernel_rfl) rfl (by first | exact ⟨_, rfl, ⟨none, 0, rfl, .inl rfl⟩, by exact zqf⟩ | exact ⟨⟨_, rfl⟩, ⟨none, 0, rfl, .inl rfl⟩, by exact zqf⟩)
 have c1i : ¬ ((S.size : Int) < 9) := by omega
 have s0 : 0 < S.size := by omega
 have s1 : 1 < S.size := by omega
 have s8 : 8 < S.size := by omega
 have s0i : (0 : Int) < (S.size : Int) := by omega
 have s1i : (1 : Int) < (S.size : Int) := by omega
 have s8i : (8 : Int) < (S.size : Int) := by omega
 by_cases c2 : byteAt S 0 = 1
 case neg =>
  have hp : ucE S = 3 := by unfold ucE; rw [if_neg c1, if_pos c2]
  rw [hp, if_neg (by decide), if_neg (by decide), if_neg (by decide), if_neg (by decide)];go_wp2;refine zqaw rfl _ 83 (uvC 0 0 (.slice none 0 0) zqe) (0, 0) _ _ rfl rfl (by exact zqh) Tryz.underlying83 rfl (by rw [uvC_size]; kernel_rfl) rfl (by first | exact ⟨_, rfl, ⟨none, 0, rfl, .inl rfl⟩, by exact zqf⟩ | exact ⟨⟨_, rfl⟩, ⟨none, 0, rfl, .inl rfl⟩, by exact zqf⟩)
 by_cases c3 : byteAt S 1 = 3
 case neg =>
  have hp : ucE S = 14 := by unfold ucE; rw [if_neg c1, if_neg (fun h => h c2), if_pos c3]
  rw [hp, if_neg (by decide), if_neg (by decide), if_neg (by decide), if_neg (by decide)];go_wp2;refine zqaw rfl _ 83 (uvC 0 0 (.slice none 0 0) zqe) (0, 0) _ _ rfl rfl (by exact zqh) Tryz.underlying83 rfl (by rw [uvC_size]; kernel_rfl) rfl (by first | exact ⟨_, rfl, ⟨none, 0, rfl, .inl rfl⟩, by exact zqf⟩ | exact ⟨⟨_, rfl⟩, ⟨none, 0, rfl, .inl rfl⟩, by exact zqf⟩)
 obtain ⟨n, hn⟩ : ∃ n, uN S = n := ⟨_, rfl⟩
 have hb8 := zqc6 S 8;have hn8 : byteAt S 8 = (n : Int) := by rw [<- hn]; unfold uN; omega
 have hnb : n <= 255 := by omega
 have huc : ∀ x, (if n < 1 \/ 10 < n then (6 : Int) else if S.size < 41 + 32 * n then 1 else if 41 + 32 * n < S.size then 2 else 0) = x -> ucE S = x := fun x h => by
  unfold ucE;rw [if_neg c1, if_neg (fun h => h c2), if_neg (fun h => h c3), hn];exact h
 replace huc := hid1 huc;have hnw : IntKind.i64.wrap (n : Int) = (n : Int) := wrap_small (by omega) (by omega);clear hb8
 by_cases c4 : n < 1
 ·have c4i : (n : Int) < 1 := by omega
  have hp : ucE S = 6 := huc.out 6 (by rw [if_pos (.inl c4)]);rw [hp, if_neg (by decide), if_neg (by decide), if_neg (by decide), if_neg (by decide)];go_wp2;refine zqaw rfl _ 83 (uvC 0 0 (.slice none 0 0) zqe) (0, 0) _ _ rfl rfl (by exact zqh) Tryz.underlying83 rfl (by rw [uvC_size]; kernel_rfl) rfl (by first | exact ⟨_, rfl, ⟨none, 0, rfl, .inl rfl⟩, by exact zqf⟩ | exact ⟨⟨_, rfl⟩, ⟨none, 0, rfl, .inl rfl⟩, by exact zqf⟩)
 have c4i : ¬ ((n : Int) < 1) := by omega
 by_cases c5 : 10 < n
 ·have c5i : (10 : Int) < (n : Int) := by omega
  have hp : ucE S = 6 := huc.out 6 (by rw [if_pos (.inr c5)]);rw [hp, if_neg (by decide), if_neg (by decide), if_neg (by decide), if_neg (by decide)];go_wp2;refine zqaw rfl _ 83 (uvC 0 0 (.slice none 0 0) zqe) (0, 0) _ _ rfl rfl (by exact zqh) Tryz.underlying83 rfl (by rw [uvC_size]; kernel_rfl) rfl (by first | exact ⟨_, rfl, ⟨none, 0, rfl, .inl rfl⟩, by exact zqf⟩ | exact ⟨⟨_, rfl⟩, ⟨none, 0, rfl, .inl rfl⟩, by exact zqf⟩)
 have c5i : ¬ ((10 : Int) < (n : Int)) := by omega
 by_cases c6 : S.size < 41 + 32 * n
 ·have c6i : (S.size : Int) < 41 + 32 * (n : Int) := by omega
  have hp : ucE S = 1 := huc.out 1 (by rw [if_neg (by omega), if_pos c6]);rw [hp, if_neg (by decide), if_neg (by decide), if_neg (by decide), if_neg (by decide)];go_wp2;refine zqaw rfl _ 83 (uvC 0 0 (.slice none 0 0) zqe) (0, 0) _ _ rfl rfl (by exact zqh) Tryz.underlying83 rfl (by rw [uvC_size]; kernel_rfl) rfl (by first | exact ⟨_, rfl, ⟨none, 0, rfl, .inl rfl⟩, by exact zqf⟩ | exact ⟨⟨_, rfl⟩, ⟨none, 0, rfl, .inl rfl⟩, by exact zqf⟩)
 have c6i : ¬ ((S.size : Int) < 41 + 32 * (n : Int)) := by omega
 by_cases c7 : 41 + 32 * n < S.size
 ·have c7i : 41 + 32 * (n : Int) < (S.size : Int) := by omega
  have hp : ucE S = 2 := huc.out 2 (by rw [if_neg (by omega), if_neg c6, if_pos c7]);rw [hp, if_neg (by decide), if_neg (by decide), if_neg (by decide), if_neg (by decide)];go_wp2;refine zqaw rfl _ 83 (uvC 0 0 (.slice none 0 0) zqe) (0, 0) _ _ rfl rfl (by exact zqh) Tryz.underlying83 rfl (by rw [uvC_size]; kernel_rfl) rfl (by first | exact ⟨_, rfl, ⟨none, 0, rfl, .inl rfl⟩, by exact zqf⟩ | exact ⟨⟨_, rfl⟩, ⟨none, 0, rfl, .inl rfl⟩, by exact zqf⟩)
 have c7i : ¬ (41 + 32 * (n : Int) < (S.size : Int)) := by omega
 have hp : ucE S = 0 := huc.out 0 (by rw [if_neg (by omega), if_neg c6, if_neg c7]);rw [hp, if_pos rfl, if_pos rfl, if_pos rfl, if_pos rfl, hn];have c26 := fun W => num19_any (S.extract 2 6) W (ext_size S 2 4);have c68 := fun W => num19_any (S.extract 6 8) W (Nat.le_trans (ext_size S 6 2) (by decide));have cT := fun W => key19_any S (9 + 32 * n) (9 + 32 * (n : Int)) W (by omega) hS (by omega);replace c26 : ∀ W, Calls Tryz.prog 100 #[.string (S.extract 2 6)] W (Rt W (.int .i64 (uSt S))) := c26;replace c68 : ∀ W, Calls Tryz.prog 100 #[.string (S.extract 6 8)] W (Rt W (.int .i64 (uLf S))) := c68;have hT : (fun i => byteAt S (9 + 32 * n + i)) = uTg S := by funext i; unfold uTg; rw [hn]
 rw [hT] at cT;have hsb := uSt_bd S;have hlb := uLf_bd S;clear hT hp huc hn;generalize uSt S = st at *;generalize uLf S = lf at *;generalize uTg S = t at *;have hsw : IntKind.u32.wrap st = st := by rw [IntKind.wrap_u32]; omega
 have hlw : IntKind.u16.wrap lf = lf := by rw [IntKind.wrap_u16]; omega
 have h26 : (2 : Nat) <= 6 /\ 6 <= S.size := ⟨by decide, by omega⟩
 have h68 : (6 : Nat) <= 8 /\ 8 <= S.size := ⟨by decide, by omega⟩
 have h6i : (6 : Int) <= (S.size : Int) := by omega
 have h8i : (8 : Int) <= (S.size : Int) := by omega
 go_wp2_with fail;generalize w.alloc (.cells (uvC 0 0 (.slice none 0 0) zqe) 83) = w1 at *;have lr := zqa fr
 (refine zqg2 zqb zqb ?_; (repeat (first | refine zqs rfl ?_ | (refine zqn rfl ?_; apply Exists.intro))); refine zqbn ?_; intro γ hinj hbase; (repeat (first | (refine zqt rfl ?_; ((first | go_big_quiet_skip | (go_big_quiet_want; go_big_quiet_op; go_big_quiet_on)); refine wpQuiet_nil ?_)) | ((first | refine zql rfl (fun _ => rfl) ?_ | ((try simp only [Nat.zero_add, Nat.reduceAdd]); apply zqdp zq2; (focus rfl); (focus (first | exact zqag _ | exact zqaj _ _ | exact zqae _ | rfl)); (focus (exact zq9))) | ((try simp only [Nat.zero_add, Nat.reduceAdd]); apply zqbs _ _ zq2; (focus rfl); (focus (intro W; (first | exact zqcd _ | exact zqbt _ | exact zero_num _ | exact zqbx _ | exact zqbd _ | exact zqbc _ | exact zero_rupd _))); (focus (first | exact zqbe _ _ _ | exact uvC_size _ _ _ _ | exact zqbw _ _ | rfl)); (focus (exact zq9))) | ((try simp only [Nat.zero_add, Nat.reduceAdd]); apply zqbq zq2; (focus rfl); (focus (intro W; simp only [List.map_toArray, List.map_cons, List.map_nil]; first | fail)); (focus (exact zq9))) | (apply zq4; (focus rfl); (focus rfl); (focus rfl); (focus (intro W hC hF; go_big_quiet_want; go_big_quiet_op; (first | go_big_quiet_on | (apply Exists.intro; refine ⟨fun _ => ?_, ?_⟩; (focus (first | (with_reducible exact Calls.of_more (c26 _)) | (with_reducible exact Calls.of_more (c68 _)) | (with_reducible exact Calls.of_more (cT _)))); go_big_quiet_on)); exact wpQuiet_nil rfl)); (focus (first | exact fun _ => ⟨rfl, rfl⟩ | exact fun h => absurd h (by decide))))); ((first | go_big_quiet_skip | (go_big_quiet_want; go_big_quiet_op; go_big_quiet_on)); refine wpQuiet_nil ?_)) | refine zqk rfl (fun _ => rfl) ?_ | ((try simp only [Nat.zero_add, Nat.reduceAdd]); apply zqbu (zqbf (hbase _)); (focus rfl); (focus rfl); (focus rfl); (focus (first | exact zqag _ | exact zqaj _ _ | exact zqae _ | rfl)); rotate_left 3; (focus (exact zqd5)); rotate_right 3; (focus kernel_rfl); (focus (first | exact zqi _ _ _ | exact uvC_size _ _ _ _ | rfl)); (focus (first | exact zqa9 _ _ _ | exact uvC_ones _ _ _ _ _ _ | exact zqb0 _ _ _ _ | kernel_rfl)); (focus (decide +kernel)); (focus (exact zq9))))))
 (refine zqb1 ?_; rintro _ ⟨mq, rfl⟩ hF; simp only [List.forall_mem_cons] at hF; obtain ⟨fo, -⟩ := hF)
 replace hG := Grew.more hG mq;replace fr := zqp mq fr;have hgo : w1.heap.size <= γ 14 := hbase 14;clear hinj hbase c26 c68 cT;replace fo : zqd (more w1 mq) (γ 14) = some (.cells (uvC st lf (.slice none 0 0) t) 83) := fo;generalize γ 14 = go at *;clear γ;generalize more w1 mq = w2 at *;have lo := zqa fo;have hrg : w.heap.size < go := by omega
 have hB : Hid (w2.heap.size <= w2.heap.size) := Nat.le_refl _;clear lr hgo;obtain ⟨B, hBe⟩ : ∃ B, B = w2.heap.size := ⟨_, rfl⟩
 rw [<- hBe] at lo;replace hB : B <= w2.heap.size := by omega
 clear hBe;go_wp2_with fail
 go_loopw [6] (fun i wr => ∃ (k : Nat) (v0 : Value), k <= n /\ i = .int .i64 k /\ B <= wr.heap.size /\ Below w.heap.size w wr /\ zqd wr w.heap.size = some (.cells (uvC 0 0 (.slice none 0 0) zqe) 83) /\ zqd wr go = some (.cells (uvC st lf v0 t) 83) /\ Hid (wr.ownsRow B 43 32 v0 k (k32L (uPk S) k))) (fun i _ => n - (intOf i).toNat)
 case atStart => exact ⟨0, _, by omega, rfl, hB, hG, fr, fo, World.ownsRow_nil _ _ _ _⟩
 case round =>
  clear hG fr fo hB;obtain ⟨k, v0, hk, rfl, hB, hG, fr, fo, OWN⟩ := hrel;have lr2 := zqa fr;have lo2 := zqa fo
  by_cases hlt : k < n
  ·have hi1 : (k : Int) < (n : Int) := by omega
   have cK := fun W => key19_any S (9 + 32 * k) (9 + 32 * (k : Int)) W (by omega) hS (by omega);obtain ⟨y, hy⟩ : ∃ y, y = uPk S k := ⟨_, rfl⟩
   replace cK : ∀ W, Calls Tryz.prog 101 #[.string S, .int .i64 (9 + 32 * (k : Int))] W (Rt W (.agg (ints .u8 32 y))) := fun W => by rw [hy]; exact cK W
   replace hy := hid1 hy;go_wp2_with fail
   (refine zq0a 8 zqb zqb zqb zqb zqb ?_; simp only [List.take_succ_cons, List.take_zero]; (repeat (first | refine zqs rfl ?_ | (refine zqn rfl ?_; apply Exists.intro))); refine zqbn ?_; intro γ hinj hbase; (repeat (first | (refine zqt rfl ?_; ((first | go_big_quiet_skip | (go_big_quiet_want; go_big_quiet_op; go_big_quiet_on)); refine wpQuiet_nil ?_)) | ((first | refine zql rfl (fun _ => rfl) ?_ | ((try simp only [Nat.zero_add, Nat.reduceAdd]); apply zqdp zq2; (focus rfl); (focus (first | exact zqag _ | exact zqaj _ _ | exact zqae _ | rfl)); (focus (exact zq9))) | ((try simp only [Nat.zero_add, Nat.reduceAdd]); apply zqbs _ _ zq2; (focus rfl); (focus (intro W; (first | exact zqcd _ | exact zqbt _ | exact zero_num _ | exact zqbx _ | exact zqbd _ | exact zqbc _))); (focus (first | exact zqbe _ _ _ | exact zqbw _ _ | rfl)); (focus (exact zq9))) | ((try simp only [Nat.zero_add, Nat.reduceAdd]); apply zqbq zq2; (focus rfl); (focus (intro W; simp only [List.map_toArray, List.map_cons, List.map_nil]; first | (with_reducible exact zqm9 _ W) | exact zqm9 _ W)); (focus (exact zq9))) | (apply zq4; (focus rfl); (focus rfl); (focus rfl); (focus (intro W hC hF; go_big_quiet_want; go_big_quiet_op; (first | go_big_quiet_on | (apply Exists.intro; refine ⟨fun _ => ?_, ?_⟩; (focus ((with_reducible exact Calls.of_more (cK _)))); go_big_quiet_on)); exact wpQuiet_nil rfl)); (focus (first | exact fun _ => ⟨rfl, rfl⟩ | exact fun h => absurd h (by decide))))); ((first | go_big_quiet_skip | (go_big_quiet_want; go_big_quiet_op; go_big_quiet_on)); refine wpQuiet_nil ?_)) | refine zqk rfl (fun _ => rfl) ?_ | ((try simp only [Nat.zero_add, Nat.reduceAdd]); apply zqbu (zqbf (hbase _)); (focus rfl); (focus rfl); (focus rfl); (focus (first | exact zqag _ | exact zqaj _ _ | exact zqae _ | rfl)); rotate_left 3; (focus (exact zqd5)); rotate_right 3; (focus kernel_rfl); (focus (first | exact zqi _ _ _ | rfl)); (focus (first | exact zqa9 _ _ _ | exact zqb0 _ _ _ _ | kernel_rfl)); (focus (decide +kernel)); (focus (exact zq9))))))
   (refine zqge ?_; rintro _ ⟨mq, rfl⟩ hF; simp only [List.forall_mem_cons] at hF; obtain ⟨hv, -⟩ := hF)
   refine zqr (i := 8) (fuel := 2) zqb rfl ?_
   intro K hK;refine step_row rfl (.tmp 63) (.tmp 69) rfl w (more wr mq) B v0 k (uPk S) (γ 7) _ _ rfl rfl (zqc2 OWN.out (zqm wr mq)) (by omega) (by rw [<- hy.out]; exact hv) (Grew.more hG mq) (by omega) (Nat.le_trans hB (zqm wr mq).size) ?_
   intro g3 c3 w5 own3 hb5 hk5;have fr5 := hk5 _ _ (by omega) (zqp mq fr);have fo5 := hk5 _ _ lo (zqp mq fo);have hB5 : B <= w5.heap.size := by obtain ⟨h1, cs, h2⟩ := zrai own3 _ rfl; have := zqa h2; omega
   have own5 := hid1 own3;have lo5 := zqa fo5;clear own3 hk5;refine hK _ _ ?_
   clear hK K;refine zqr (i := 9) (fuel := 1) zqb rfl ?_
   intro K hK
   go_simp
   refine hK _ _ ?_
   clear hK K;refine zqr (i := 10) (fuel := 0) zqb rfl ?_
   intro K hK
   go_simp
   refine hK _ _ ?_
   clear hK K;refine wpAny_done zqb ?_ _
   have OWN5 : Hid ((w5.setRow go (uvC st lf (.slice (some ⟨g3, 0, none⟩) (k + 1) c3) t)).ownsRow B 43 32 (.slice (some ⟨g3, 0, none⟩) (k + 1) c3) (k + 1) (k32L (uPk S) (k + 1))) := zqj4 own5.out lo;have hG5 := Grew.setRow hb5 go (uvC st lf (.slice (some ⟨g3, 0, none⟩) (k + 1) c3) t) (by omega);have fr6 := zqo go (uvC st lf (.slice (some ⟨g3, 0, none⟩) (k + 1) c3) t) fr5 (by omega);have fo6 := zqw (uvC st lf (.slice (some ⟨g3, 0, none⟩) (k + 1) c3) t) fo5;have hB6 : B <= (w5.setRow go (uvC st lf (.slice (some ⟨g3, 0, none⟩) (k + 1) c3) t)).heap.size := by rw [zqz]; exact hB5
   go_wp2
   go_roundw
   case rel => first | exact ⟨k + 1, _, by omega, by go_num, hB6, hG5, fr6, fo6, OWN5⟩ | ((repeat' apply Exists.intro) <;> first | exact ⟨⟨k + 1, _, by omega, by go_num, hB6, hG5, fr6, fo6, OWN5⟩, rfl⟩ | exact undef)
   case measure => (simp [intOf]; omega)
  ·obtain rfl : k = n := by omega
   have hi1 : ¬ ((k : Int) < (k : Int)) := by omega
   obtain ⟨oa2, c2, rfl, -, hK2⟩ := zqe0 OWN.out;have hob : Hid (∀ ad, oa2 = some ad -> ad.block ≠ w.heap.size) := fun ad e => by have := zqh5 OWN.out rfl ad e; omega
   have HK9 := hid1 (hK2.aside fr (fun ad e => hob.out ad e) (uvC st lf (.slice oa2 k c2) t));clear OWN hK2;go_wp2;refine zqaw rfl _ 83 (uvC st lf (.slice oa2 k c2) t) (0, 0) _ _ rfl rfl (zqw _ fr) Tryz.underlying83 rfl (by rw [uvC_size]; kernel_rfl) rfl ?_
   first | exact ⟨_, rfl, ⟨_, _, rfl, HK9.out⟩, Grew.setRow hG _ _ (Nat.le_refl _)⟩ | exact ⟨⟨_, rfl⟩, ⟨_, _, rfl, HK9.out⟩, Grew.setRow hG _ _ (Nat.le_refl _)⟩
end Go.Proofs.YtpefpiobcpdeoaaGreatDoor
namespace Go.Proofs.YtpefpiobcpdeoaaGreatDoor
open Go.RowKit Go.Extern
def fitE (l N : Int) (n : Nat) (D : Int) : Int := if N < 2 \/ 1024 < N then 4 else if N <= l then 5 else if (n : Int) ≠ D then 6 else 0
theorem fitE_a {l N : Int} {n : Nat} {D : Int} (h : N < 2) : fitE l N n D = 4 := by unfold fitE; rw [if_pos (.inl h)]
theorem fitE_b {l N : Int} {n : Nat} {D : Int} (h : 1024 < N) : fitE l N n D = 4 := by unfold fitE; rw [if_pos (.inr h)]
theorem fitE_c {l N : Int} {n : Nat} {D : Int} (h1 : ¬ (N < 2)) (h2 : ¬ (1024 < N)) (h : N <= l) : fitE l N n D = 5 := by unfold fitE; rw [if_neg (by omega), if_pos h]
theorem fitE_d {l N : Int} {n : Nat} {D : Int} (h1 : ¬ (N < 2)) (h2 : ¬ (1024 < N)) (h3 : ¬ (N <= l)) (h : ¬ ((n : Int) = D)) : fitE l N n D = 6 := by unfold fitE; rw [if_neg (by omega), if_neg h3, if_pos h]
theorem fitE_e {l N : Int} {n : Nat} {D : Int} (h1 : ¬ (N < 2)) (h2 : ¬ (1024 < N)) (h3 : ¬ (N <= l)) (h : (n : Int) = D) : fitE l N n D = 0 := by unfold fitE; rw [if_neg (by omega), if_neg h3, if_neg (fun h4 => h4 h)]
theorem ufits_any (s l : Int) (oa : Option Addr) (n c : Nat) (t : Nat -> Int) (N D : Int) (w : World) (hl : 0 <= l /\ l < 65536) (cD : ∀ W : World, Calls Tryz.prog 97 #[.int .i64 N, .int .i64 l] W (Rt W (.int .i64 D))) :
  Calls Tryz.prog 41 #[.agg (uvC s l (.slice oa n c) t), .int .i64 N] w fun e w' => ∃ u, e = .returned (u) /\ ErV w' u (fitE l N n D) /\ Below w.heap.size w w' := by
 have hlw : IntKind.i64.wrap l = l := wrap_small (by omega) (by omega)
 go_enter Tryz.func41, Tryz.ntmps41
 have hG : Below w.heap.size w (w.alloc (.cells (uvC s l (.slice oa n c) t) 81)) := Grew.alloc (Grew.refl _) _
 by_cases h1 : N < 2
 ·rw [fitE_a h1]
  go_wp2_with fail;generalize w.alloc (.cells (uvC s l (.slice oa n c) t) 81) = w1 at *;refine (wrap_any _ _ _ _).mono ?_
  rintro e w3 ⟨rfl, rfl⟩;go_wp2;go_ret;exact ⟨_, rfl, zqd4 _ 4 (by decide), Grew.alloc hG _⟩
 by_cases h2 : 1024 < N
 ·rw [fitE_b h2]
  go_wp2_with fail;generalize w.alloc (.cells (uvC s l (.slice oa n c) t) 81) = w1 at *;refine (wrap_any _ _ _ _).mono ?_
  rintro e w3 ⟨rfl, rfl⟩;go_wp2;go_ret;exact ⟨_, rfl, zqd4 _ 4 (by decide), Grew.alloc hG _⟩
 by_cases h3 : N <= l
 ·rw [fitE_c h1 h2 h3]
  go_wp2_with fail;generalize w.alloc (.cells (uvC s l (.slice oa n c) t) 81) = w1 at *;refine (wrap_any _ _ _ _).mono ?_
  rintro e w3 ⟨rfl, rfl⟩;go_wp2;go_ret;exact ⟨_, rfl, zqd4 _ 5 (by decide), Grew.alloc hG _⟩
 by_cases h4 : (n : Int) = D
 ·rw [fitE_e h1 h2 h3 h4]
  go_wp2_with fail;have fb : zqd (w.alloc (.cells (uvC s l (.slice oa n c) t) 81)) w.heap.size = some (.cells (uvC s l (.slice oa n c) t) 81) := zqg _ _ _ rfl;generalize w.alloc (.cells (uvC s l (.slice oa n c) t) 81) = w1 at *;have lb := zqa fb
  ((first | (with_reducible refine zq8 zqb zqb ?_) | refine zq1 zqb zqb ?_); (repeat (first | go_big_quiet_skip | (go_big_quiet_want; go_big_quiet_op; first | go_big_quiet_on | (apply Exists.intro; refine ⟨fun _ => ?_, ?_⟩; (focus (exact Calls.of_more (cD _))); go_big_quiet_on)))); refine wpQuiet_nil ?_; rintro _ ⟨mq, rfl⟩)
  replace hG := Grew.more hG mq;generalize more w1 mq = w2 at *;go_wp2;go_ret;exact ⟨_, rfl, .inl ⟨rfl, rfl⟩, hG⟩
 ·rw [fitE_d h1 h2 h3 h4]
  have h5 : ((n : Int) == D) = false := by simp [h4]
  go_wp2_with fail;have fb : zqd (w.alloc (.cells (uvC s l (.slice oa n c) t) 81)) w.heap.size = some (.cells (uvC s l (.slice oa n c) t) 81) := zqg _ _ _ rfl;generalize w.alloc (.cells (uvC s l (.slice oa n c) t) 81) = w1 at *;have lb := zqa fb
  ((first | (with_reducible refine zq8 zqb zqb ?_) | refine zq1 zqb zqb ?_); (repeat (first | go_big_quiet_skip | (go_big_quiet_want; go_big_quiet_op; first | go_big_quiet_on | (apply Exists.intro; refine ⟨fun _ => ?_, ?_⟩; (focus (exact Calls.of_more (cD _))); go_big_quiet_on)))); refine wpQuiet_nil ?_; rintro _ ⟨mq, rfl⟩)
  replace hG := Grew.more hG mq;generalize more w1 mq = w2 at *;go_wp2_with fail;refine (wrap_any _ _ _ _).mono ?_
  rintro e w3 ⟨rfl, rfl⟩;go_wp2;go_ret;exact ⟨_, rfl, zqd4 _ 6 (by decide), Grew.alloc hG _⟩
theorem rfits19_any (s l : Int) (oa : Option Addr) (n c : Nat) (t : Nat -> Int) (N D : Int) (w : World) (hl : 0 <= l /\ l < 65536) (cD : ∀ W : World, Calls Tryz.prog 98 #[.int .i64 N, .int .i64 l] W (Rt W (.int .i64 D))) :
  Calls Tryz.prog 42 #[.agg (uvC s l (.slice oa n c) t), .int .i64 N] w (Rt w (.int .i64 (fitE l N n D))) := by
 have hlw : IntKind.i64.wrap l = l := wrap_small (by omega) (by omega)
 go_enter Tryz.func42, Tryz.ntmps42
 have hG : Below w.heap.size w (w.alloc (.cells (uvC s l (.slice oa n c) t) 83)) := Grew.alloc (Grew.refl _) _
 by_cases h1 : N < 2
 ·rw [fitE_a h1]
  go_wp2;go_ret;exact ⟨rfl, hG⟩
 by_cases h2 : 1024 < N
 ·rw [fitE_b h2]
  go_wp2;go_ret;exact ⟨rfl, hG⟩
 by_cases h3 : N <= l
 ·rw [fitE_c h1 h2 h3]
  go_wp2;go_ret;exact ⟨rfl, hG⟩
 by_cases h4 : (n : Int) = D
 ·rw [fitE_e h1 h2 h3 h4]
  go_wp2_with fail;have fb : zqd (w.alloc (.cells (uvC s l (.slice oa n c) t) 83)) w.heap.size = some (.cells (uvC s l (.slice oa n c) t) 83) := zqg _ _ _ rfl;generalize w.alloc (.cells (uvC s l (.slice oa n c) t) 83) = w1 at *;have lb := zqa fb
  ((first | (with_reducible refine zq8 zqb zqb ?_) | refine zq1 zqb zqb ?_); (repeat (first | go_big_quiet_skip | (go_big_quiet_want; go_big_quiet_op; first | go_big_quiet_on | (apply Exists.intro; refine ⟨fun _ => ?_, ?_⟩; (focus (exact Calls.of_more (cD _))); go_big_quiet_on)))); refine wpQuiet_nil ?_; rintro _ ⟨mq, rfl⟩)
  replace hG := Grew.more hG mq;generalize more w1 mq = w2 at *;go_wp2;go_ret;exact ⟨rfl, hG⟩
 ·rw [fitE_d h1 h2 h3 h4]
  have h5 : ((n : Int) == D) = false := by simp [h4]
  go_wp2_with fail;have fb : zqd (w.alloc (.cells (uvC s l (.slice oa n c) t) 83)) w.heap.size = some (.cells (uvC s l (.slice oa n c) t) 83) := zqg _ _ _ rfl;generalize w.alloc (.cells (uvC s l (.slice oa n c) t) 83) = w1 at *;have lb := zqa fb
  ((first | (with_reducible refine zq8 zqb zqb ?_) | refine zq1 zqb zqb ?_); (repeat (first | go_big_quiet_skip | (go_big_quiet_want; go_big_quiet_op; first | go_big_quiet_on | (apply Exists.intro; refine ⟨fun _ => ?_, ?_⟩; (focus (exact Calls.of_more (cD _))); go_big_quiet_on)))); refine wpQuiet_nil ?_; rintro _ ⟨mq, rfl⟩)
  replace hG := Grew.more hG mq;generalize more w1 mq = w2 at *;go_wp2;go_ret;exact ⟨rfl, hG⟩
end Go.Proofs.YtpefpiobcpdeoaaGreatDoor
namespace Go.Proofs.YtpefpiobcpdeoaaGreatDoor
open Go.RowKit Go.Extern
@[go_sem high] theorem make1k (w : World) : (Instr.makeSlice 45 (.int .i64 1) (.int .i64 1)).run Tryz.prog w = .ok (.slice (some ⟨w.heap.size, 0, none⟩) 1 1) (w.alloc (.cells (ints .u8 32 zqe) 44)) := by kernel_rfl
theorem Awake18_any (aw : ∀ (w : World), Tabs w -> EtAt w -> Calls Tryz.prog 18 #[] w (Rt w (.bool true))) (w : World) (hT : Tabs w) (hE : EtAt w) :
  Calls Tryz.prog 95 #[] w (Rt w (.bool true)) := by
 go_enter Tryz.func95, Tryz.ntmps95
 go_wp2_with fail;refine (aw _ hT hE).mono ?_
 rintro e w2 ⟨rfl, hb⟩;go_wp2;go_ret;exact ⟨rfl, hb⟩
theorem awake19_any (aw : ∀ (w : World), Tabs w -> EtAt w -> Calls Tryz.prog 95 #[] w (Rt w (.bool true))) (w : World) (hT : Tabs w) (hE : EtAt w) :
  Calls Tryz.prog 35 #[] w (Rt w (.bool true)) := by
 have hz := uB_size 0 0 1 (fun _ => zqe) zqe;have cB := fun (g : Nat) (W : World) (h : K32At W (some ⟨g, 0, none⟩) 1 (fun _ => zqe)) => uwrite_any 0 0 (some ⟨g, 0, none⟩) 1 1 zqe (fun _ => zqe) W (by decide) (by decide) h (fun _ _ => b_nought) b_nought (by decide) (by decide);generalize uB 0 0 1 (fun _ => zqe) zqe = Z at *
 go_enter Tryz.func35, Tryz.ntmps35
 have hK : K32At (w.alloc (.cells (ints .u8 32 zqe) 44)) (some ⟨w.heap.size, 0, none⟩) 1 (fun _ => zqe) := k32_new (zqg _ _ _ rfl) (by decide);have hG : Below w.heap.size w (w.alloc (.cells (ints .u8 32 zqe) 44)) := Grew.alloc (Grew.refl _) _;go_wp2_with fail;refine (cB _ _ hK).mono ?_
 rintro e w1 ⟨rfl, hb⟩;replace hG := Grew.trans hG hb;go_wp2_with fail;refine (aw _ (hT.later hG) (hE.later hG)).mono ?_
 rintro e w2 ⟨rfl, hb⟩;replace hG := Grew.trans hG hb;have hz2 : (Z.size : Int) = 73 := by omega
 go_wp2;go_ret;exact ⟨rfl, hG⟩
theorem uvC_inj {s l : Int} {t : Nat -> Int} {n c c' : Nat} {o o' : Option Addr} (h : (Value.agg (uvC s l (.slice o n c) t)) = .agg (uvC s l (.slice o' n c') t)) : o = o' /\ c = c' := by
 have h1 := congrArg (fun v => match v with | .agg cs => cs[2]? | _ => none) h
 simp only [uvC_2] at h1
 cases h1
 exact ⟨rfl, rfl⟩
theorem stab_up (s l : Int) (n : Nat) (P : Nat -> Nat -> Int) (t : Nat -> Int) (u : Value) : Stab (fun w => ∀ oa c, u = .agg (uvC s l (.slice oa n c) t) -> K32At w oa n P) none := fun w w' h e oa c hu => (h oa c hu).later e
theorem updateReads_any (aw : ∀ (w : World), Tabs w -> EtAt w -> Calls Tryz.prog 35 #[] w (Rt w (.bool true))) (S : ByteArray) (w : World) (hT : Tabs w) (hE : EtAt w) :
  Calls Tryz.prog 8 #[.string S] w (Rt w (.bool true)) := by
 have HE : Hid (EtAt w) := hE
 go_enter Tryz.func8, Tryz.ntmps8
 go_wp2_with fail;refine (aw _ hT hE).mono ?_
 rintro e w1 ⟨rfl, hG⟩;clear hT hE aw
 by_cases hbig : (1000 : Int) < (S.size : Int)
 ·go_wp2
  go_ret;exact ⟨rfl, hG⟩
 have hn64 : (if ucE S = 0 then uN S else 0) <= 255 := by
  have := zqc6 S 8
  by_cases h : ucE S = 0
  ·rw [if_pos h]; unfold uN; omega
  ·rw [if_neg h]; omega
 have cP := fun W => uparse_any S W (by omega);have cR := fun W => rparse19_any S W (by omega);generalize uPk S = P at *;generalize (if ucE S = 0 then uSt S else 0) = s at *;generalize (if ucE S = 0 then uLf S else 0) = l at *;generalize (if ucE S = 0 then uTg S else zqe) = t at *;generalize (if ucE S = 0 then uN S else 0) = n at *;generalize ucE S = X at *;go_wp2_with fail;refine (cP _).mono ?_
 rintro e w2 ⟨v, u, rfl, ⟨oa, c, rfl, hp⟩, hu, hb⟩;replace hG := Grew.trans hG hb;clear hb;have HU : Hid (ErV (w2.alloc (.cells (uvC s l (.slice oa n c) t) 81)) u X) := hu.later (Grew.alloc (Grew.refl _) _);have HP : Hid (K32At (w2.alloc (.cells (uvC s l (.slice oa n c) t) 81)) oa n P) := hp.later (Grew.alloc (Grew.refl _) _);have fb : zqd (w2.alloc (.cells (uvC s l (.slice oa n c) t) 81)) w2.heap.size = some (.cells (uvC s l (.slice oa n c) t) 81) := zqg _ _ _ rfl;replace hG := Grew.alloc hG (.cells (uvC s l (.slice oa n c) t) 81);clear hu hp cP;go_wp2_with fail;generalize w2.alloc (.cells (uvC s l (.slice oa n c) t) 81) = w3 at *;generalize w2.heap.size = gb at *;refine (cR _).mono ?_
 rintro e w4 ⟨v, rfl, ⟨ob, d, rfl, hq⟩, hb⟩;replace HU : Hid (ErV (w4.alloc (.cells (uvC s l (.slice ob n d) t) 83)) u X) := (HU.out.later hb).later (Grew.alloc (Grew.refl _) _);replace HP : Hid (K32At (w4.alloc (.cells (uvC s l (.slice ob n d) t) 83)) oa n P) := (HP.out.later hb).later (Grew.alloc (Grew.refl _) _);have HQ : Hid (K32At (w4.alloc (.cells (uvC s l (.slice ob n d) t) 83)) ob n P) := hq.later (Grew.alloc (Grew.refl _) _);replace fb := zqj (.cells (uvC s l (.slice ob n d) t) 83) (zqc hb fb);have fr : zqd (w4.alloc (.cells (uvC s l (.slice ob n d) t) 83)) w4.heap.size = some (.cells (uvC s l (.slice ob n d) t) 83) := zqg _ _ _ rfl;replace hG := Grew.alloc (Grew.trans hG hb) (.cells (uvC s l (.slice ob n d) t) 83);clear hb hq cR;go_wp2_with fail;generalize w4.alloc (.cells (uvC s l (.slice ob n d) t) 83) = w5 at *;generalize w4.heap.size = gr at *
 have lb := zqa fb;have lr := zqa fr;have cO := fun (W : World) (hb : Below w5.heap.size w5 W) => of19_any s l oa n c t P W (by omega) (HP.out.later hb)
 rcases Classical.em (X = 0) with hX | hX
 ·subst hX
  have hu0 : u = .nilIface := by rcases HU.out with ⟨-, h⟩ | ⟨h, -⟩; exact h; exact absurd rfl h
  subst hu0;refine zqd8 (fun k => k == 1) (fun k => match k with | 1 => fun u => ∃ oa c, u = .agg (uvC s l (.slice oa n c) t) | _ => fun _ => True) (fun k => match k with | 1 => fun u w => ∀ oa c, u = .agg (uvC s l (.slice oa n c) t) -> K32At w oa n P | _ => fun _ _ => True) (fun k => match k with | 1 => .agg (uvC s l (.slice none n 0) t) | _ => undef) (fun i hi => ?_) zqb zqb ?_
  ·simp only [Bool.or_eq_true, beq_iff_eq] at hi
   subst hi;exact ⟨none, 0, rfl⟩
  (first | refine zqs rfl ?_ | (refine zqn rfl ?_; apply Exists.intro))
  refine zqn rfl ⟨undef, ?_⟩
  iterate 16 (first | refine zqs rfl ?_ | (refine zqn rfl ?_; apply Exists.intro))
  refine zqbn ?_
  intro γ gv hsv hinj hbase;obtain ⟨o1, c1, e1⟩ := hsv 1 rfl
  (repeat (first | (refine zqt rfl ?_; ((first | go_big_quiet_skip | (go_big_quiet_want; go_big_quiet_op; go_big_quiet_on)); refine wpQuiet_nil ?_)) | ((first | refine zql rfl (fun _ => rfl) ?_ | (apply zq4; (focus rfl); (focus rfl); (focus rfl); (focus (intro W hC hF; (have hbW : Below w5.heap.size w5 W := by obtain ⟨mm, rfl⟩ := hC; exact zqm w5 mm); go_big_quiet_want; go_big_quiet_op; (first | go_big_quiet_on | (apply Exists.intro; refine ⟨fun _ => ?_, ?_⟩; (focus ((fail))); go_big_quiet_on)); exact wpQuiet_nil rfl)); (focus (first | exact fun _ => ⟨rfl, rfl⟩ | exact fun h => absurd h (by decide))))); ((first | go_big_quiet_skip | (go_big_quiet_want; go_big_quiet_op; go_big_quiet_on)); refine wpQuiet_nil ?_)) | refine zqk rfl (fun _ => rfl) ?_))
  refine zqah #[.agg (uvC s l (.slice oa n c) t)] (enters_of Tryz.func36 zqb rfl) rfl e1 rfl rfl rfl rfl (zqbo (stab_up _ _ _ _ _ _)) (by first | kernel_rfl | simp [go_sem]) ?_ ?_
  ·intro W hC hF
   obtain ⟨mm, rfl⟩ := hC;refine (cO _ (zqm w5 mm)).mono ?_
   rintro e w9 ⟨v, rfl, ⟨o9, c9, rfl, hp9⟩, hb9⟩;exact ⟨_, rfl, ⟨_, _, rfl⟩, (fun oa2 c2 e2 => by rcases uvC_inj e2 with ⟨rfl, rfl⟩; exact hp9), hb9⟩
  ((first | go_big_quiet_skip | (go_big_quiet_want; go_big_quiet_op; go_big_quiet_on)); refine wpQuiet_nil ?_)
  (repeat (first | (refine zqt rfl ?_; ((first | go_big_quiet_skip | (go_big_quiet_want; go_big_quiet_op; go_big_quiet_on)); refine wpQuiet_nil ?_)) | ((first | refine zql rfl (fun _ => rfl) ?_ | (apply zq4; (focus rfl); (focus rfl); (focus rfl); (focus (intro W hC hF; (have hbW : Below w5.heap.size w5 W := by obtain ⟨mm, rfl⟩ := hC; exact zqm w5 mm); (have hGW : Below w.heap.size w W := Grew.trans hG hbW); (try (have hP0 : ∀ oa c, (.agg (uvC s l (.slice o1 n c1) t) : Value) = .agg (uvC s l (.slice oa n c) t) -> K32At W oa n P := known hF (List.mem_cons_self ..) (by decide +kernel))); go_big_quiet_want; go_big_quiet_op; (first | go_big_quiet_on | (apply Exists.intro; refine ⟨fun _ => ?_, ?_⟩; (focus (first | (exact Calls.of_more (same19_any s l o1 ob n c1 d t P _ (by omega) ((hP0 _ _ rfl).later (zqm W _)) (HQ.out.later (Grew.more hbW _)))) | (exact Calls.of_more (zqfs _ (HE.out.later (Grew.more hGW _)) (HU.out.later (Grew.more hbW _)))))); go_big_quiet_on)); exact wpQuiet_nil rfl)); (focus (first | exact fun _ => ⟨rfl, rfl⟩ | exact fun h => absurd h (by decide))))); ((first | go_big_quiet_skip | (go_big_quiet_want; go_big_quiet_op; go_big_quiet_on)); refine wpQuiet_nil ?_)) | refine zqk rfl (fun _ => rfl) ?_))
  (refine zqb1 ?_; rintro _ ⟨mq, rfl⟩ hF; simp only [List.forall_mem_cons] at hF; obtain ⟨-, -⟩ := hF)
  replace hG := Grew.more hG mq;go_wp2;go_ret;exact ⟨rfl, hG⟩
 ·have hxe : (X == 0) = false := by simp [hX]
  obtain ⟨t9, x9, hux⟩ : ∃ t x, u = .iface t x := by rcases HU.out with ⟨h, -⟩ | ⟨-, t, x, l, h, -⟩; exact absurd h hX; exact ⟨t, x, h⟩
  subst hux;refine zqd8 (fun k => k == 1) (fun k => match k with | 1 => fun u => ∃ oa c, u = .agg (uvC s l (.slice oa n c) t) | _ => fun _ => True) (fun k => match k with | 1 => fun u w => ∀ oa c, u = .agg (uvC s l (.slice oa n c) t) -> K32At w oa n P | _ => fun _ _ => True) (fun k => match k with | 1 => .agg (uvC s l (.slice none n 0) t) | _ => undef) (fun i hi => ?_) zqb zqb ?_
  ·simp only [Bool.or_eq_true, beq_iff_eq] at hi
   subst hi;exact ⟨none, 0, rfl⟩
  (first | refine zqs rfl ?_ | (refine zqn rfl ?_; apply Exists.intro))
  refine zqn rfl ⟨undef, ?_⟩
  iterate 16 (first | refine zqs rfl ?_ | (refine zqn rfl ?_; apply Exists.intro))
  refine zqbn ?_
  intro γ gv hsv hinj hbase;obtain ⟨o1, c1, e1⟩ := hsv 1 rfl
  (repeat (first | (refine zqt rfl ?_; ((first | go_big_quiet_skip | (go_big_quiet_want; go_big_quiet_op; go_big_quiet_on)); refine wpQuiet_nil ?_)) | ((first | refine zql rfl (fun _ => rfl) ?_ | (apply zq4; (focus rfl); (focus rfl); (focus rfl); (focus (intro W hC hF; (have hbW : Below w5.heap.size w5 W := by obtain ⟨mm, rfl⟩ := hC; exact zqm w5 mm); go_big_quiet_want; go_big_quiet_op; (first | go_big_quiet_on | (apply Exists.intro; refine ⟨fun _ => ?_, ?_⟩; (focus ((fail))); go_big_quiet_on)); exact wpQuiet_nil rfl)); (focus (first | exact fun _ => ⟨rfl, rfl⟩ | exact fun h => absurd h (by decide))))); ((first | go_big_quiet_skip | (go_big_quiet_want; go_big_quiet_op; go_big_quiet_on)); refine wpQuiet_nil ?_)) | refine zqk rfl (fun _ => rfl) ?_))
  refine zqah #[.agg (uvC s l (.slice oa n c) t)] (enters_of Tryz.func36 zqb rfl) rfl e1 rfl rfl rfl rfl (zqbo (stab_up _ _ _ _ _ _)) (by first | kernel_rfl | simp [go_sem]) ?_ ?_
  ·intro W hC hF
   obtain ⟨mm, rfl⟩ := hC;refine (cO _ (zqm w5 mm)).mono ?_
   rintro e w9 ⟨v, rfl, ⟨o9, c9, rfl, hp9⟩, hb9⟩;exact ⟨_, rfl, ⟨_, _, rfl⟩, (fun oa2 c2 e2 => by rcases uvC_inj e2 with ⟨rfl, rfl⟩; exact hp9), hb9⟩
  ((first | go_big_quiet_skip | (go_big_quiet_want; go_big_quiet_op; go_big_quiet_on)); refine wpQuiet_nil ?_)
  (repeat (first | (refine zqt rfl ?_; ((first | go_big_quiet_skip | (go_big_quiet_want; go_big_quiet_op; go_big_quiet_on)); refine wpQuiet_nil ?_)) | ((first | refine zql rfl (fun _ => rfl) ?_ | (apply zq4; (focus rfl); (focus rfl); (focus rfl); (focus (intro W hC hF; (have hbW : Below w5.heap.size w5 W := by obtain ⟨mm, rfl⟩ := hC; exact zqm w5 mm); (have hGW : Below w.heap.size w W := Grew.trans hG hbW); (try (have hP0 : ∀ oa c, (.agg (uvC s l (.slice o1 n c1) t) : Value) = .agg (uvC s l (.slice oa n c) t) -> K32At W oa n P := known hF (List.mem_cons_self ..) (by decide +kernel))); go_big_quiet_want; go_big_quiet_op; (first | go_big_quiet_on | (apply Exists.intro; refine ⟨fun _ => ?_, ?_⟩; (focus (first | (exact Calls.of_more (same19_any s l o1 ob n c1 d t P _ (by omega) ((hP0 _ _ rfl).later (zqm W _)) (HQ.out.later (Grew.more hbW _)))) | (exact Calls.of_more (zqfs _ (HE.out.later (Grew.more hGW _)) (HU.out.later (Grew.more hbW _)))))); go_big_quiet_on)); exact wpQuiet_nil rfl)); (focus (first | exact fun _ => ⟨rfl, rfl⟩ | exact fun h => absurd h (by decide))))); ((first | go_big_quiet_skip | (go_big_quiet_want; go_big_quiet_op; go_big_quiet_on)); refine wpQuiet_nil ?_)) | refine zqk rfl (fun _ => rfl) ?_))
  (refine zqb1 ?_; rintro _ ⟨mq, rfl⟩ hF; simp only [List.forall_mem_cons] at hF; obtain ⟨-, -⟩ := hF)
  replace hG := Grew.more hG mq;go_wp2;go_ret;exact ⟨rfl, hG⟩
end Go.Proofs.YtpefpiobcpdeoaaGreatDoor
namespace Go.Proofs.YtpefpiobcpdeoaaGreatDoor
open Go.ChangeShapes Go.WideShapes Go.ChangeAt Go.RowKit
theorem one_of {α : Type} (l : List α) (k : Nat) (h : k < l.length) : (l.drop k).take 1 = [l[k]] := by
 rw [List.drop_eq_getElem_cons h]
 rfl
theorem k32_of_trod {H : Type} {enc : TypeId × Value -> H} {W : World} {base : Nat} {sp : Nat -> Bool} {held : Bool} {fuel : Nat} {u : Value} {x : DataW H × List MemPlace}
  (h : DataW.trod enc Tryz.prog W base sp held fuel 45 [u] = some x) : ∃ (oa : Option Addr) (n c : Nat) (F : Nat -> Nat -> Int), u = .slice oa n c /\ (∀ i, i < n -> Bytes 32 (F i)) /\ K32At W oa n F := by
 obtain ⟨hsl, hd⟩ := zqpn Tryz.underlying45 h;obtain ⟨oa, n, c, F, hv, hm, hw, hF⟩ := zqyp (n := 32) (k := .u8) Tryz.underlying45 Tryz.underlying44 Tryz.underlying5 zqb zqb (Nat.zero_lt_succ 31) hsl hd;refine ⟨oa, n, c, F, hv, fun i hi j hj => bounds_u8 (hw i hi j hj), ?_⟩
 rcases hF with h | ⟨a, ho, hc⟩
 ·exact .inl h
 ·refine .inr ⟨a, ho, fun w' hb j hj i hi => ?_⟩
  have h1 := hc j hj i hi;rw [hb.cell (cell_lt h1)];exact h1
theorem uvC_k (s l : Int) (b : Value) (t : Nat -> Int) (q : Nat) (h : q < 32) : (uvC s l b t)[3 + q]? = some (.int .u8 (t q)) := by
 unfold uvC;rw [Array.getElem?_append_right (by simp), show 3 + q - (#[Value.int .u32 s, Value.int .u16 l, b] : Array Value).size = q by simp, zqat _ _ _ _ h]
theorem open_upd {H : Type} {enc : TypeId × Value -> H} {W : World} {base : Nat} {sp : Nat -> Bool} {held : Bool} {r : Reach} {b0 : Nat} {v : Value} {d : DataW H} {ps : List MemPlace}
  (hval : Value.okWide Tryz.prog W r b0 81 v) (hd : DataW.Trod enc Tryz.prog W base sp held 81 v d ps) :
  ∃ (s l : Int) (oa : Option Addr) (n c : Nat) (P : Nat -> Nat -> Int) (t : Nat -> Int), v = .agg (uvC s l (.slice oa n c) t) /\ (0 <= s /\ s < 4294967296) /\ (0 <= l /\ l < 65536) /\ (∀ j, j < n -> Bytes 32 (P j)) /\ Bytes 32 t /\ K32At W oa n P := by
 unfold Value.okWide at hval;rw [Tryz.underlying81] at hval;obtain ⟨cs, rfl, hsz, _⟩ := hval;rw [show Tryz.prog.cellsOf 81 = 35 by kernel_rfl] at hsz;obtain ⟨fuel, hf⟩ := hd;have hlen : cs.toList.length = 35 := by simpa using hsz
 have hc0 : (Value.agg cs).cells.toList = cs.toList := rfl;rw [hc0] at hf;obtain ⟨xs, n', _, _, _, hxl, hel⟩ := DataW.trod_struct Tryz.underlying81 hf;obtain ⟨y0, y1, y2, y3, rfl⟩ : ∃ y0 y1 y2 y3, xs = [y0, y1, y2, y3] := by
  match xs, hxl with
  | [y0, y1, y2, y3], _ => exact ⟨y0, y1, y2, y3, rfl⟩
 have c0 : Tryz.prog.cellsOf 22 = 1 := by kernel_rfl
 have c1 : Tryz.prog.cellsOf 26 = 1 := by kernel_rfl
 have c2 : Tryz.prog.cellsOf 45 = 1 := by kernel_rfl
 have c3 : Tryz.prog.cellsOf 44 = 32 := by kernel_rfl
 have F0 : DataW.trod enc Tryz.prog W base sp held n' 22 ((cs.toList.drop 0).take (Tryz.prog.cellsOf 22)) = some y0 := hel 0 _ rfl;have F1 : DataW.trod enc Tryz.prog W base sp held n' 26 ((cs.toList.drop 1).take (Tryz.prog.cellsOf 26)) = some y1 := hel 1 _ rfl;have F2 : DataW.trod enc Tryz.prog W base sp held n' 45 ((cs.toList.drop 2).take (Tryz.prog.cellsOf 45)) = some y2 := hel 2 _ rfl;have F3 : DataW.trod enc Tryz.prog W base sp held n' 44 ((cs.toList.drop 3).take (Tryz.prog.cellsOf 44)) = some y3 := hel 3 _ rfl;rw [c0, one_of _ 0 (by omega)] at F0;rw [c1, one_of _ 1 (by omega)] at F1;rw [c2, one_of _ 2 (by omega)] at F2;rw [c3] at F3;obtain ⟨s, es, -, ws⟩ := DataW.trod_int Tryz.underlying22 F0;obtain ⟨l, el, -, wl⟩ := DataW.trod_int Tryz.underlying26 F1;obtain ⟨oa, n, c, P, ep, hP, hK⟩ := k32_of_trod F2
 obtain ⟨t, ht⟩ := zqhc (n := 32) (k := .u8) Tryz.underlying44 Tryz.underlying5 zqb (by simp [hsz]) F3;have e0 : cs[0]? = some (.int .u32 s) := by rw [<- Array.getElem?_toList, List.getElem?_eq_getElem (by omega)]; exact congrArg some (List.cons.inj es).1
 have e1 : cs[1]? = some (.int .u16 l) := by rw [<- Array.getElem?_toList, List.getElem?_eq_getElem (by omega)]; exact congrArg some (List.cons.inj el).1
 have e2 : cs[2]? = some (.slice oa n c) := by rw [<- Array.getElem?_toList, List.getElem?_eq_getElem (by omega)]; exact congrArg some ep
 refine ⟨s, l, oa, n, c, P, t, ?_, zrdl ws, by have := bounds_u16 wl; omega, hP, fun i hi => bounds_u8 (ht i hi).2, hK⟩
 congr 1
 apply Array.ext_getElem?
 intro i
 rcases (by omega : i = 0 \/ i = 1 \/ i = 2 \/ 3 <= i) with rfl | rfl | rfl | h3
 ·rw [e0, uvC_0]
 ·rw [e1, uvC_1]
 ·rw [e2, uvC_2]
 ·obtain ⟨q, rfl⟩ : ∃ q, i = 3 + q := ⟨i - 3, by omega⟩
  by_cases hq : q < 32
  ·rw [uvC_k _ _ _ _ _ hq]
   have h2 := (ht q hq).1;rw [List.getElem?_take, if_pos hq, List.getElem?_drop] at h2;rw [<- Array.getElem?_toList];exact h2
  ·rw [Array.getElem?_eq_none (by omega), Array.getElem?_eq_none (by rw [uvC_size]; omega)]
end Go.Proofs.YtpefpiobcpdeoaaGreatDoor
