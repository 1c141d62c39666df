/- U21 -/
import Derived.Test.YtnjghcnhcbobhaaGreatDoorU20
import Derived.Test.YtnjghcnhcbobhaaGreatDoorU19
import Derived.Test.YtnjghcnhcbobhaaGreatDoorB17
import Derived.Test.YtnjghcnhcbobhaaGreatDoorQ13
import Derived.Test.YtnjghcnhcbobhaaGreatDoorR11
import Derived.Test.YtnjghcnhcbobhaaGreatDoorQ11
import Derived.Test.YtnjghcnhcbobhaaGreatDoorQ12
import Derived.Test.YtnjghcnhcbobhaaGreatDoorTrk
set_option linter.unusedVariables false
set_option linter.unusedSimpArgs false
set_option maxRecDepth 100000
set_option maxHeartbeats 4000000
namespace Go.Proofs.YtnjghcnhcbobhaaGreatDoor
open Go.RowKit Go.Extern
theorem zrhc {n m : Nat} {N : Nat -> Int} (h : ¬ (2 <= n /\ m = 2 * n - 2 /\ ¬ Twice N n)) (hn : n <= 40) : chkE n N m ≠ 0 := by
 intro h0
 by_cases h1 : 2 <= n
 ·by_cases h2 : Twice N n
  ·rw [zqnu (by omega) h2] at h0
   exact absurd h0 (by decide)
  ·by_cases h3 : m = 2 * n - 2
   ·exact h ⟨h1, h3, h2⟩
   ·rw [zqro (by omega) h2 h3] at h0
    exact absurd h0 (by decide)
 ·rw [zqil (by omega)] at h0
  exact absurd h0 (by decide)
end Go.Proofs.YtnjghcnhcbobhaaGreatDoor
namespace Go.Proofs.YtnjghcnhcbobhaaGreatDoor
open Go.RowKit Go.Extern
theorem zqyd {g : Nat} {cs : Array Value} {t : TypeId} {W : World} (h : Full g cs t W) (m : More) : Full g cs t (more W m) := zqp m h
theorem zqll (oa ob : Option Addr) (n c m d : Nat) (f t N I : Nat -> Int) (P : Nat -> Nat -> Int) (w : World) (hP : SeAt w oa n N I) (hN : ∀ j, j < n -> 0 <= N j /\ N j < 4294967296) (hI : ∀ j, j < n -> 0 <= I j /\ I j < 4294967296) (hK : K32At w ob m P) (h2 : n <= 2000) (hm : m <= 900) :
  Calls Tryz.prog 21 #[.agg (stC (.slice oa n c) f (.slice ob m d) t)] w (Rt w (.string (catS (sF n N I f m P t) (3 + 2 * n + 2)))) := by
 have HP : Hid (SeAt w oa n N I) := hP;have HK : Hid (K32At w ob m P) := hK;have HN := hid1 hN;have HI := hid1 hI;clear hP hK hN hI;have hw3 : IntKind.u64.wrap (n : Int) = (n : Int) := by rw [IntKind.wrap_u64]; omega
 have c1 : ∀ W : World, Calls Tryz.prog 64 #[.int .i64 1, .int .u64 1] W (Rt W (.string (numB 1 1))) := fun W => zqh9 1 1 W (by decide) (by decide);have c2 : ∀ W : World, Calls Tryz.prog 64 #[.int .i64 1, .int .u64 2] W (Rt W (.string (numB 1 2))) := fun W => zqh9 1 2 W (by decide) (by decide);have c3 : ∀ W : World, Calls Tryz.prog 64 #[.int .i64 2, .int .u64 (n : Int)] W (Rt W (.string (numB 2 (n : Int)))) := fun W => zqh9 2 (n : Int) W (by omega) (by omega);have z1 := zqco 1 1;have z2 := zqco 1 2;have z3 := zqco 2 (n : Int);obtain ⟨T, hT⟩ : ∃ T : Nat -> ByteArray, ∀ k, T k = catS (sF n N I f m P t) (3 + 2 * k) := ⟨_, fun _ => rfl⟩
 have hT0 : T 0 = numB 1 1 ++ numB 1 2 ++ numB 2 (n : Int) := by
  rw [hT]
  show ByteArray.empty ++ numB 1 1 ++ numB 1 2 ++ numB 2 (n : Int) = _
  rw [ByteArray.empty_append]
 have hTs : ∀ k, k < n -> T (k + 1) = T k ++ numB 4 (N k) ++ numB 4 (I k) := fun k hk => by
  rw [hT, hT]
  show catS (sF n N I f m P t) (3 + 2 * k) ++ sF n N I f m P t (3 + 2 * k) ++ sF n N I f m P t (3 + 2 * k + 1) = _
  rw [zqsu _ _ _ _ _ _ _ k hk, zq0y _ _ _ _ _ _ _ k hk]
 have hTz : ∀ k, k <= n -> (T k).size = 4 + 8 * k := fun k hk => by rw [hT]; exact zqsf n N I f m P t k hk
 have hTe : catS (sF n N I f m P t) (3 + 2 * n + 2) = T n ++ zqcg (fun _ => f) 1 ++ zqcg P m := by
  rw [hT]
  show catS (sF n N I f m P t) (3 + 2 * n) ++ sF n N I f m P t (3 + 2 * n) ++ sF n N I f m P t (3 + 2 * n + 1) = _
  rw [sF_f, sF_p]
 rw [hTe];clear hT hTe;replace hTs := hid1 hTs;replace hTz := hid1 hTz
 go_enter Tryz.func21, Tryz.ntmps21
 go_wp2_with fail;have fb : zqd (w.alloc (.cells (stC (.slice oa n c) f (.slice ob m d) t) 53)) w.heap.size = some (.cells (stC (.slice oa n c) f (.slice ob m d) t) 53) := zqf _ _ _ rfl;have hG : Below w.heap.size w (w.alloc (.cells (stC (.slice oa n c) f (.slice ob m d) t) 53)) := Grew.alloc (Grew.refl _) _;generalize w.alloc (.cells (stC (.slice oa n c) f (.slice ob m d) t) 53) = w1 at *;have lb := zqa fb;generalize hA1 : numB 1 1 = A1 at *;generalize hA2 : numB 1 2 = A2 at *;generalize hA3 : numB 2 (n : Int) = A3 at *;have q1 : zqel A1 A2 := by unfold zqel; omega
 have q2 : zqel (A1 ++ A2) A3 := by unfold zqel; simp only [ByteArray.size_append]; omega
 clear z1 z2 z3
 ((first | (with_reducible refine zq5 zqc zqc ?_) | refine zqz zqc zqc ?_); (repeat (first | go_big_quiet_skip | (go_big_quiet_want; go_big_quiet_op; first | go_big_quiet_on | (apply Exists.intro; refine ⟨fun _ => ?_, ?_⟩; (focus (first | (with_reducible exact Calls.of_more (c1 _)) | (with_reducible exact Calls.of_more (c2 _)) | (with_reducible exact Calls.of_more (c3 _)))); go_big_quiet_on)))); refine wpQuiet_nil ?_; rintro _ ⟨mq, rfl⟩)
 replace hG := Grew.more hG mq;replace fb := zqp mq fb;clear hA1 hA2 hA3 q1 q2 c1 c2 c3 lb;generalize more w1 mq = w2 at *;have lb := zqa fb;rw [<- hT0];clear hT0 hw3;go_wp2_with fail
 go_loopw [18, 3] (fun i v wr => ∃ k : Nat, k <= n /\ i = .int .i64 k /\ v = .string (T k) /\ Below w.heap.size w wr /\ zqd wr w.heap.size = some (.cells (stC (.slice oa n c) f (.slice ob m d) t) 53)) (fun i _ _ => n - (intOf i).toNat)
 case atStart => exact ⟨0, by omega, rfl, rfl, hG, fb⟩
 case round =>
  clear hG fb lb;obtain ⟨k, hk, rfl, rfl, hG, fb⟩ := hrel;have lb := zqa fb
  by_cases hlt : k < n
  ·have hi1 : (k : Int) < (n : Int) := by omega
   have hi0 : (0 : Int) <= (k : Int) := by omega
   obtain ⟨ad, rfl, -⟩ := HP.out.blk (by omega);have hl := (HP.out.later hG).load_rse hlt;have hx := HN.out k hlt;have hy := HI.out k hlt;have HR := hid1 (hTs.out k hlt);have hz := hTz.out k hk;have z4 := zqco 4 (N k);have z5 := zqco 4 (I k);generalize N k = x at *;generalize I k = y at *;have hw3 : IntKind.u64.wrap x = x := by rw [IntKind.wrap_u64]; omega
   have hw4 : IntKind.u64.wrap y = y := by rw [IntKind.wrap_u64]; omega
   have c4 : ∀ W : World, Calls Tryz.prog 64 #[.int .i64 4, .int .u64 x] W (Rt W (.string (numB 4 x))) := fun W => zqh9 4 x W (by omega) (by omega);have c5 : ∀ W : World, Calls Tryz.prog 64 #[.int .i64 4, .int .u64 y] W (Rt W (.string (numB 4 y))) := fun W => zqh9 4 y W (by omega) (by omega);generalize numB 4 x = A4 at *;generalize numB 4 y = A5 at *;generalize hTk : T k = Tk at *;have q1 : zqel Tk A4 := by unfold zqel; omega
   have q2 : zqel (Tk ++ A4) A5 := by unfold zqel; simp only [ByteArray.size_append]; omega
   have fp : zqd (wr.alloc (.cells #[.int .u32 x, .int .u32 y] 119)) wr.heap.size = some (.cells #[.int .u32 x, .int .u32 y] 119) := zqf _ _ _ rfl;have fb1 := zqi (.cells #[.int .u32 x, .int .u32 y] 119) fb;have hG1 := Grew.alloc hG (.cells #[.int .u32 x, .int .u32 y] 119);clear z4 z5 hz;go_wp2_with fail;clear hl fb hG lb;generalize wr.alloc (.cells #[.int .u32 x, .int .u32 y] 119) = w5 at *;generalize wr.heap.size = gp at *;have lb := zqa fb1;have lp := zqa fp
   ((first | (with_reducible refine zq5 zqc zqc ?_) | refine zqz zqc zqc ?_); (repeat (first | go_big_quiet_skip | (go_big_quiet_want; go_big_quiet_op; first | go_big_quiet_on | (apply Exists.intro; refine ⟨fun _ => ?_, ?_⟩; (focus (first | (with_reducible exact Calls.of_more (c4 _)) | (with_reducible exact Calls.of_more (c5 _)))); go_big_quiet_on)))); refine wpQuiet_nil ?_; rintro _ ⟨mq, rfl⟩)
   replace hG1 := Grew.more hG1 mq;replace fb1 := zqp mq fb1;clear c4 c5 fp lp lb q1 q2;generalize more w5 mq = w6 at *;go_wp2
   go_roundw
   case rel => first | exact ⟨k + 1, by omega, by go_num, by rw [HR.out], hG1, fb1⟩ | ((repeat' apply Exists.intro) <;> first | exact ⟨⟨k + 1, by omega, by go_num, by rw [HR.out], hG1, fb1⟩, rfl⟩ | exact undef)
   case measure => (simp [intOf]; omega)
  ·obtain rfl : k = n := by omega
   have hi1 : ¬ ((k : Int) < (k : Int)) := by omega
   have hz := hTz.out k (Nat.le_refl _);have hKz : (zqcg (fun _ => f) 1).size = 32 * 1 := zqcz _ _;have hPz := zqcz P m;have cF : ∀ (g : Nat) (W : World), Full g (ints .u8 32 f) 43 W -> Calls Tryz.prog 65 #[.slice (some ⟨g, 0, none⟩) 1 1] W (Rt W (.string (zqcg (fun _ => f) 1))) := fun g W h => zqjd (fun _ => f) (some ⟨g, 0, none⟩) 1 1 W (zquw h) (by decide);have cP := fun (W : World) (hb : Below wr.heap.size wr W) => zqjd P ob m d W ((HK.out.later hG).later hb) (by omega);generalize hK1 : zqcg (fun _ => f) 1 = K1 at *;generalize hK2 : zqcg P m = K2 at *;generalize hTk : T k = Tk at *;have q1 : zqel Tk K1 := by unfold zqel; omega
   have q2 : zqel (Tk ++ K1) K2 := by unfold zqel; simp only [ByteArray.size_append]; omega
   clear hz hKz hPz;go_wp2_with fail
   (refine zqgn zqc zqc ?_; (repeat (first | refine zqv rfl ?_ | (refine zqo rfl ?_; apply Exists.intro))); refine zqbw ?_; intro γ hinj hbase; (repeat (first | (refine zqy rfl ?_; ((first | go_big_quiet_skip | (go_big_quiet_want; go_big_quiet_op; go_big_quiet_on)); refine wpQuiet_nil ?_)) | ((first | refine zql rfl (fun _ => rfl) ?_ | ((try simp only [Nat.zero_add, Nat.reduceAdd]); apply zqdi zq1; (focus rfl); (focus (first | exact zqag _ | exact zqah _ _ | exact zqaa _ | rfl)); (focus (exact zq8))) | ((try simp only [Nat.zero_add, Nat.reduceAdd]); apply zqbn _ _ zq1; (focus rfl); (focus (intro W; (first | exact zqb9 _ | exact zqbk _ | exact zero_num _ | exact zqbl _ | exact zqa9 _ | exact zqa5 _))); (focus (first | exact zqa8 _ _ _ | exact zqbm _ _ | rfl)); (focus (exact zq8))) | ((try simp only [Nat.zero_add, Nat.reduceAdd]); apply zqbx zq1; (focus rfl); (focus (intro W; simp only [List.map_toArray, List.map_cons, List.map_nil]; first | (with_reducible exact zqlo _ W) | exact zqlo _ W)); (focus (exact zq8))) | (apply zq9; (focus rfl); (focus rfl); (focus rfl); (focus (intro W hC hF; (have hbW : Below wr.heap.size wr W := by obtain ⟨mm, rfl⟩ := hC; exact zqk wr mm); (try (have hE1 : Full (γ 3) (ints .u8 32 f) 43 W := known hF (List.mem_cons_self ..) (by decide +kernel))); go_big_quiet_want; go_big_quiet_op; (first | go_big_quiet_on | (apply Exists.intro; refine ⟨fun _ => ?_, ?_⟩; (focus (first | (with_reducible exact Calls.of_more (cF _ _ (zqyd hE1 _))) | (with_reducible exact Calls.of_more (cP _ (Grew.more hbW _))))); go_big_quiet_on)); exact wpQuiet_nil rfl)); (focus (first | exact fun _ => ⟨rfl, rfl⟩ | exact fun h => absurd h (by decide))))); ((first | go_big_quiet_skip | (go_big_quiet_want; go_big_quiet_op; go_big_quiet_on)); refine wpQuiet_nil ?_)) | refine zqm rfl (fun _ => rfl) ?_ | ((try simp only [Nat.zero_add, Nat.reduceAdd]); apply zqbo (zqa7 (hbase _)); (focus rfl); (focus rfl); (focus rfl); (focus (first | exact zqag _ | exact zqah _ _ | exact zqaa _ | rfl)); rotate_left 3; (focus (exact zqdv)); rotate_right 3; (focus kernel_rfl); (focus (first | exact zqj _ _ _ | rfl)); (focus (first | exact zqa3 _ _ _ | exact zqbr _ _ _ _ | kernel_rfl)); (focus (decide +kernel)); (focus (exact zq8))))))
   (refine zqb7 ?_; rintro _ ⟨mq, rfl⟩ hF; simp only [List.forall_mem_cons] at hF; obtain ⟨-, -⟩ := hF)
   go_wp2;go_ret;exact ⟨by subst hK1 hK2 hTk; rfl, Grew.more hG _⟩
theorem zqub (oa ob : Option Addr) (n c m d : Nat) (f t N I : Nat -> Int) (P : Nat -> Nat -> Int) (w : World) (hP : SeAt w oa n N I) (hN : ∀ j, j < n -> 0 <= N j /\ N j < 4294967296) (hI : ∀ j, j < n -> 0 <= I j /\ I j < 4294967296) (hK : K32At w ob m P) (h2 : n <= 2000) (hm : m <= 900) :
  Calls Tryz.prog 59 #[.agg (stC (.slice oa n c) f (.slice ob m d) t)] w (Rt w (.string (sB n N I f m P t))) := by
 have HP : Hid (SeAt w oa n N I) := hP;have HK : Hid (K32At w ob m P) := hK;clear hP hK;have hz := zqkx n N I f m P t;have hz2 : (zqcg (fun _ => t) 1).size = 32 * 1 := zqcz _ _;have eT := zq0t n N I f m P t;rw [eT];clear eT
 go_enter Tryz.func59, Tryz.ntmps59
 go_wp2_with fail;have fb : zqd (w.alloc (.cells (stC (.slice oa n c) f (.slice ob m d) t) 53)) w.heap.size = some (.cells (stC (.slice oa n c) f (.slice ob m d) t) 53) := zqf _ _ _ rfl;have hG : Below w.heap.size w (w.alloc (.cells (stC (.slice oa n c) f (.slice ob m d) t) 53)) := Grew.alloc (Grew.refl _) _;generalize w.alloc (.cells (stC (.slice oa n c) f (.slice ob m d) t) 53) = w1 at *;have lb := zqa fb;have cB := fun (W : World) (hb : Below w1.heap.size w1 W) => zqll oa ob n c m d f t N I P W ((HP.out.later hG).later hb) hN hI ((HK.out.later hG).later hb) h2 hm;generalize hBB : catS (sF n N I f m P t) (3 + 2 * n + 2) = B at *
 have cK : ∀ (g : Nat) (W : World), Full g (ints .u8 32 t) 43 W -> Calls Tryz.prog 65 #[.slice (some ⟨g, 0, none⟩) 1 1] W (Rt W (.string (zqcg (fun _ => t) 1))) := fun g W h => zqjd (fun _ => t) (some ⟨g, 0, none⟩) 1 1 W (zquw h) (by decide);generalize hKK : zqcg (fun _ => t) 1 = K1 at *;have q1 : zqel B K1 := by unfold zqel; omega
 (refine zqgn zqc zqc ?_; (repeat (first | refine zqv rfl ?_ | (refine zqo rfl ?_; apply Exists.intro))); refine zqbw ?_; intro γ hinj hbase; (repeat (first | (refine zqy rfl ?_; ((first | go_big_quiet_skip | (go_big_quiet_want; go_big_quiet_op; go_big_quiet_on)); refine wpQuiet_nil ?_)) | ((first | refine zql rfl (fun _ => rfl) ?_ | ((try simp only [Nat.zero_add, Nat.reduceAdd]); apply zqdi zq1; (focus rfl); (focus (first | exact zqag _ | exact zqah _ _ | exact zqaa _ | rfl)); (focus (exact zq8))) | ((try simp only [Nat.zero_add, Nat.reduceAdd]); apply zqbn _ _ zq1; (focus rfl); (focus (intro W; (first | exact zqb9 _ | exact zqbk _ | exact zero_num _ | exact zqbl _ | exact zqa9 _ | exact zqa5 _))); (focus (first | exact zqa8 _ _ _ | exact zqbm _ _ | rfl)); (focus (exact zq8))) | ((try simp only [Nat.zero_add, Nat.reduceAdd]); apply zqbx zq1; (focus rfl); (focus (intro W; simp only [List.map_toArray, List.map_cons, List.map_nil]; first | (with_reducible exact zqlo _ W) | exact zqlo _ W)); (focus (exact zq8))) | (apply zq9; (focus rfl); (focus rfl); (focus rfl); (focus (intro W hC hF; (have hbW : Below w1.heap.size w1 W := by obtain ⟨mm, rfl⟩ := hC; exact zqk w1 mm); (try (have hE1 : Full (γ 4) (ints .u8 32 t) 43 W := known hF (List.mem_cons_self ..) (by decide +kernel))); go_big_quiet_want; go_big_quiet_op; (first | go_big_quiet_on | (apply Exists.intro; refine ⟨fun _ => ?_, ?_⟩; (focus (first | (exact Calls.of_more (cB _ (Grew.more hbW _))) | (exact Calls.of_more (cK _ _ (zqp _ hE1))))); go_big_quiet_on)); exact wpQuiet_nil rfl)); (focus (first | exact fun _ => ⟨rfl, rfl⟩ | exact fun h => absurd h (by decide))))); ((first | go_big_quiet_skip | (go_big_quiet_want; go_big_quiet_op; go_big_quiet_on)); refine wpQuiet_nil ?_)) | refine zqm rfl (fun _ => rfl) ?_ | ((try simp only [Nat.zero_add, Nat.reduceAdd]); apply zqbo (zqa7 (hbase _)); (focus rfl); (focus rfl); (focus rfl); (focus (first | exact zqag _ | exact zqah _ _ | exact zqaa _ | rfl)); rotate_left 3; (focus (exact zqdv)); rotate_right 3; (focus kernel_rfl); (focus (first | exact zqj _ _ _ | rfl)); (focus (first | exact zqa3 _ _ _ | exact zqbr _ _ _ _ | kernel_rfl)); (focus (decide +kernel)); (focus (exact zq8))))))
 (refine zqb7 ?_; rintro _ ⟨mq, rfl⟩ hF; simp only [List.forall_mem_cons] at hF; obtain ⟨-, -⟩ := hF)
 go_wp2;go_ret;exact ⟨by subst hBB hKK; rfl, Grew.more hG _⟩
theorem zquk (oa ob : Option Addr) (n c m d : Nat) (f t N I : Nat -> Int) (P : Nat -> Nat -> Int) (w : World) (hP : SeAt w oa n N I) (hN : ∀ j, j < n -> 0 <= N j /\ N j < 4294967296) (hI : ∀ j, j < n -> 0 <= I j /\ I j < 4294967296) (hK : K32At w ob m P) (h2 : n <= 2000) (hm : m <= 900) (h0 : chkE n N m = 0) :
  Calls Tryz.prog 17 #[.agg (stC (.slice oa n c) f (.slice ob m d) t)] w (Rt w (.tuple #[.string (sB n N I f m P t), .int .i64 0])) := by
 have HP : Hid (SeAt w oa n N I) := hP;have HK : Hid (K32At w ob m P) := hK;clear hP hK
 go_enter Tryz.func17, Tryz.ntmps17
 go_wp2_with fail;have fb : zqd (w.alloc (.cells (stC (.slice oa n c) f (.slice ob m d) t) 53)) w.heap.size = some (.cells (stC (.slice oa n c) f (.slice ob m d) t) 53) := zqf _ _ _ rfl;have hG : Below w.heap.size w (w.alloc (.cells (stC (.slice oa n c) f (.slice ob m d) t) 53)) := Grew.alloc (Grew.refl _) _;generalize w.alloc (.cells (stC (.slice oa n c) f (.slice ob m d) t) 53) = w1 at *;have lb := zqa fb;have cC := fun (W : World) (hb : Below w1.heap.size w1 W) => zqkd oa ob n c m d f t N I W (by omega) (by omega) ((HP.out.later hG).later hb);have cB := fun (W : World) (hb : Below w1.heap.size w1 W) => zqub oa ob n c m d f t N I P W ((HP.out.later hG).later hb) hN hI ((HK.out.later hG).later hb) h2 hm;rw [h0] at cC;generalize hZ : sB n N I f m P t = Z at *;refine (cC _ (Grew.refl _)).mono ?_
 rintro e w2 ⟨rfl, hb⟩;replace fb := zqb hb fb;replace hG := Grew.trans hG hb;have lb := zqa fb;go_wp2_with fail;refine (cB _ hb).mono ?_
 rintro e w3 ⟨rfl, hb3⟩;replace hG := Grew.trans hG hb3;go_wp2;refine ⟨rfl, .tuple #[.string Z, .int .i64 0], ?_, by first | rfl | (rw [hZ]), hG⟩
 first | rfl | kernel_rfl | simp [go_sem, results]
theorem zqkl (oa ob : Option Addr) (n c m d : Nat) (f t N I : Nat -> Int) (P : Nat -> Nat -> Int) (w : World) (hP : SeAt w oa n N I) (hN : ∀ j, j < n -> 0 <= N j /\ N j < 4294967296) (hI : ∀ j, j < n -> 0 <= I j /\ I j < 4294967296) (hK : K32At w ob m P) (h2 : n <= 2000) (hm : m <= 900) (h0 : chkE n N m ≠ 0) :
  Calls Tryz.prog 17 #[.agg (stC (.slice oa n c) f (.slice ob m d) t)] w (Rt w (.tuple #[.string ⟨#[]⟩, .int .i64 (chkE n N m)])) := by
 have HP : Hid (SeAt w oa n N I) := hP;have HK : Hid (K32At w ob m P) := hK;clear hP hK
 go_enter Tryz.func17, Tryz.ntmps17
 go_wp2_with fail;have fb : zqd (w.alloc (.cells (stC (.slice oa n c) f (.slice ob m d) t) 53)) w.heap.size = some (.cells (stC (.slice oa n c) f (.slice ob m d) t) 53) := zqf _ _ _ rfl;have hG : Below w.heap.size w (w.alloc (.cells (stC (.slice oa n c) f (.slice ob m d) t) 53)) := Grew.alloc (Grew.refl _) _;generalize w.alloc (.cells (stC (.slice oa n c) f (.slice ob m d) t) 53) = w1 at *;have lb := zqa fb;have cC := fun (W : World) (hb : Below w1.heap.size w1 W) => zqkd oa ob n c m d f t N I W (by omega) (by omega) ((HP.out.later hG).later hb);generalize hX : chkE n N m = X at *;refine (cC _ (Grew.refl _)).mono ?_
 rintro e w2 ⟨rfl, hb⟩;replace hG := Grew.trans hG hb;go_wp2;refine ⟨rfl, .tuple #[.string ⟨#[]⟩, .int .i64 X], ?_, by first | rfl | (rw [hX]), hG⟩
 first | rfl | kernel_rfl | simp [go_sem, results]
end Go.Proofs.YtnjghcnhcbobhaaGreatDoor
namespace Go.Proofs.YtnjghcnhcbobhaaGreatDoor
open Go.RowKit Go.Extern
def puX (n : Nat) (f s : Int) : Int := idxI f s (allN (n : Int)) 0
theorem zqzj (f s : Int) : ∀ (L : List Nd) (k : Nat), idxI f s L k = -1 \/ ∃ i, i < L.length /\ idxI f s L k = ((k + i : Nat) : Int)
 | [], k => .inl rfl
 | u :: L, k => by
  rw [idxI]
  split
  ·exact .inr ⟨0, by simp, rfl⟩
  ·rcases zqzj f s L (k + 1) with h | ⟨i, hi, h⟩
   ·exact .inl h
   ·exact .inr ⟨i + 1, by simp; omega, by rw [h]; omega⟩
theorem zq90 (n : Nat) (f s : Int) : -1 <= puX n f s /\ puX n f s <= 3000 := by
 have hl := zqpg (n : Int);unfold puX
 rcases zqzj f s (allN (n : Int)) 0 with h | ⟨i, hi, h⟩ <;> rw [h] <;> omega
def puB (n m : Nat) (f s : Int) : Bool := decide (1 <= puX n f s /\ puX n f s <= (m : Int))
def puK (n m : Nat) (P : Nat -> Nat -> Int) (f s : Int) : Nat -> Int := if 1 <= puX n f s /\ puX n f s <= (m : Int) then P (puX n f s - 1).toNat else zqg
theorem zqk1 (oa ob : Option Addr) (n c m d : Nat) (f t : Nat -> Int) (P : Nat -> Nat -> Int) (a b : Int) (w : World) (hK : K32At w ob m P) (hn : n <= 100000) (hm : m <= 100000) (ha0 : -9223372036854775808 <= a) (ha1 : a <= 9223372036854775807) :
  Calls Tryz.prog 23 #[.agg (stC (.slice oa n c) f (.slice ob m d) t), .agg #[.int .i64 a, .int .i64 b]] w (Rt w (.tuple #[.agg (ints .u8 32 (puK n m P a b)), .bool (puB n m a b)])) := by
 have HK : Hid (K32At w ob m P) := hK;clear hK;have hx := zq90 n a b;have cI : ∀ W : World, Calls Tryz.prog 68 #[.int .i64 (n : Int), .agg #[.int .i64 a, .int .i64 b]] W (Rt W (.int .i64 (puX n a b))) := fun W => zqnp (n : Int) a b W ha0 ha1;unfold puK puB;generalize puX n a b = x at *
 go_enter Tryz.func23, Tryz.ntmps23
 go_wp2_with fail;have fb : zqd (((w.alloc (.cells (stC (.slice oa n c) f (.slice ob m d) t) 47)).alloc (.cells #[.int .i64 a, .int .i64 b] 49)).alloc (.cells (ints .u8 32 zqg) 44)) w.heap.size = some (.cells (stC (.slice oa n c) f (.slice ob m d) t) 47) := zqi _ (zqi _ (zqf _ _ _ rfl));have fn : zqd (((w.alloc (.cells (stC (.slice oa n c) f (.slice ob m d) t) 47)).alloc (.cells #[.int .i64 a, .int .i64 b] 49)).alloc (.cells (ints .u8 32 zqg) 44)) (w.heap.size + 1) = some (.cells #[.int .i64 a, .int .i64 b] 49) := zqi _ (zqf _ _ _ (by simp));have fk : zqd (((w.alloc (.cells (stC (.slice oa n c) f (.slice ob m d) t) 47)).alloc (.cells #[.int .i64 a, .int .i64 b] 49)).alloc (.cells (ints .u8 32 zqg) 44)) (w.heap.size + 1 + 1) = some (.cells (ints .u8 32 zqg) 44) := zqf _ _ _ (by simp)
 have hG : Below w.heap.size w (((w.alloc (.cells (stC (.slice oa n c) f (.slice ob m d) t) 47)).alloc (.cells #[.int .i64 a, .int .i64 b] 49)).alloc (.cells (ints .u8 32 zqg) 44)) := Grew.alloc (Grew.alloc (Grew.alloc (Grew.refl _) _) _) _;generalize ((w.alloc (.cells (stC (.slice oa n c) f (.slice ob m d) t) 47)).alloc (.cells #[.int .i64 a, .int .i64 b] 49)).alloc (.cells (ints .u8 32 zqg) 44) = w1 at *;generalize hg2 : w.heap.size + 1 + 1 = g2 at *;generalize hg1 : w.heap.size + 1 = g1 at *;have lb := zqa fb;have ln := zqa fn;have lk := zqa fk;go_wp2_with fail;refine (cI _).mono ?_
 rintro e w2 ⟨rfl, hb⟩;replace fb := zqb hb fb;replace fk := zqb hb fk;replace hG := Grew.trans hG hb;clear hb cI fn ln lb lk;have lb := zqa fb;have lk := zqa fk
 by_cases h1 : 1 <= x
 case neg =>
  have i1 : x - 1 < 0 := by omega
  have hno : ¬ (1 <= x /\ x <= (m : Int)) := by omega
  go_wp2;refine zqbc rfl _ 44 (ints .u8 32 zqg) (0, 0) _ _ rfl rfl (zqs _ fk) Tryz.underlying44 rfl (by rw [zqj]; kernel_rfl) rfl ?_
  exact ⟨by simp only [if_neg hno, decide_eq_false hno]; rfl, Grew.setRow hG _ _ (by omega)⟩
 by_cases h2 : x <= (m : Int)
 case neg =>
  have i1 : ¬ (x - 1 < 0) := by omega
  have i2 : (m : Int) <= x - 1 := by omega
  have hno : ¬ (1 <= x /\ x <= (m : Int)) := by omega
  go_wp2;refine zqbc rfl _ 44 (ints .u8 32 zqg) (0, 0) _ _ rfl rfl (zqs _ fk) Tryz.underlying44 rfl (by rw [zqj]; kernel_rfl) rfl ?_
  exact ⟨by simp only [if_neg hno, decide_eq_false hno]; rfl, Grew.setRow hG _ _ (by omega)⟩
 obtain ⟨k, rfl⟩ : ∃ k : Nat, x = (k : Int) + 1 := ⟨(x - 1).toNat, by omega⟩
 have i1 : ¬ ((k : Int) < 0) := by omega
 have i2 : ¬ ((m : Int) <= (k : Int)) := by omega
 have i3 : (k : Int) < (m : Int) := by omega
 have hkm : k < m := by omega
 have hok : 1 <= (k : Int) + 1 /\ (k : Int) + 1 <= (m : Int) := by omega
 have hi0 : (0 : Int) <= (k : Int) := by omega
 obtain ⟨ad, rfl⟩ := HK.out.addr (by omega);have l1 := HK.out.loadK hkm hG;have hPk : Hid (P ((k : Int) + 1 - 1).toNat = P k) := by congr 1; omega
 go_wp2;refine zqbc rfl _ 44 (ints .u8 32 (P k)) (0, 0) _ _ rfl rfl (zqs _ fk) Tryz.underlying44 rfl (by rw [zqj]; kernel_rfl) rfl ?_
 exact ⟨by simp only [if_pos hok, decide_eq_true hok, hPk.out]; rfl, Grew.setRow hG _ _ (by omega)⟩
theorem zqk6 (oa ob : Option Addr) (n c m d : Nat) (f t : Nat -> Int) (P : Nat -> Nat -> Int) (a b : Int) (w : World) (hK : K32At w ob m P) (hn : n <= 100000) (hm : m <= 100000) (ha0 : -9223372036854775808 <= a) (ha1 : a <= 9223372036854775807) :
  Calls Tryz.prog 24 #[.agg (stC (.slice oa n c) f (.slice ob m d) t), .agg #[.int .i64 a, .int .i64 b]] w (Rt w (.tuple #[.agg (ints .u8 32 (puK n m P a b)), .bool (puB n m a b)])) := by
 have HK : Hid (K32At w ob m P) := hK;clear hK;have hx := zq90 n a b;have cI : ∀ W : World, Calls Tryz.prog 69 #[.int .i64 (n : Int), .agg #[.int .i64 a, .int .i64 b]] W (Rt W (.int .i64 (puX n a b))) := fun W => zqyo (n : Int) a b W;unfold puK puB;generalize puX n a b = x at *
 go_enter Tryz.func24, Tryz.ntmps24
 go_wp2_with fail;have fb : zqd (((w.alloc (.cells (stC (.slice oa n c) f (.slice ob m d) t) 53)).alloc (.cells #[.int .i64 a, .int .i64 b] 68)).alloc (.cells (ints .u8 32 zqg) 43)) w.heap.size = some (.cells (stC (.slice oa n c) f (.slice ob m d) t) 53) := zqi _ (zqi _ (zqf _ _ _ rfl));have fn : zqd (((w.alloc (.cells (stC (.slice oa n c) f (.slice ob m d) t) 53)).alloc (.cells #[.int .i64 a, .int .i64 b] 68)).alloc (.cells (ints .u8 32 zqg) 43)) (w.heap.size + 1) = some (.cells #[.int .i64 a, .int .i64 b] 68) := zqi _ (zqf _ _ _ (by simp));have fk : zqd (((w.alloc (.cells (stC (.slice oa n c) f (.slice ob m d) t) 53)).alloc (.cells #[.int .i64 a, .int .i64 b] 68)).alloc (.cells (ints .u8 32 zqg) 43)) (w.heap.size + 1 + 1) = some (.cells (ints .u8 32 zqg) 43) := zqf _ _ _ (by simp)
 have hG : Below w.heap.size w (((w.alloc (.cells (stC (.slice oa n c) f (.slice ob m d) t) 53)).alloc (.cells #[.int .i64 a, .int .i64 b] 68)).alloc (.cells (ints .u8 32 zqg) 43)) := Grew.alloc (Grew.alloc (Grew.alloc (Grew.refl _) _) _) _;generalize ((w.alloc (.cells (stC (.slice oa n c) f (.slice ob m d) t) 53)).alloc (.cells #[.int .i64 a, .int .i64 b] 68)).alloc (.cells (ints .u8 32 zqg) 43) = w1 at *;generalize hg2 : w.heap.size + 1 + 1 = g2 at *;generalize hg1 : w.heap.size + 1 = g1 at *;have lb := zqa fb;have ln := zqa fn;have lk := zqa fk;go_wp2_with fail;refine (cI _).mono ?_
 rintro e w2 ⟨rfl, hb⟩;replace fb := zqb hb fb;replace fk := zqb hb fk;replace hG := Grew.trans hG hb;clear hb cI fn ln lb lk;have lb := zqa fb;have lk := zqa fk
 by_cases h1 : 1 <= x
 case neg =>
  have i1 : x < 1 := by omega
  have hno : ¬ (1 <= x /\ x <= (m : Int)) := by omega
  go_wp2;refine zqbc rfl _ 43 (ints .u8 32 zqg) (0, 0) _ _ rfl rfl (zqs _ fk) Tryz.underlying43 rfl (by rw [zqj]; kernel_rfl) rfl ?_
  exact ⟨by simp only [if_neg hno, decide_eq_false hno]; rfl, Grew.setRow hG _ _ (by omega)⟩
 by_cases h2 : x <= (m : Int)
 case neg =>
  have i1 : ¬ (x < 1) := by omega
  have i2 : (m : Int) <= x - 1 := by omega
  have hno : ¬ (1 <= x /\ x <= (m : Int)) := by omega
  go_wp2;refine zqbc rfl _ 43 (ints .u8 32 zqg) (0, 0) _ _ rfl rfl (zqs _ fk) Tryz.underlying43 rfl (by rw [zqj]; kernel_rfl) rfl ?_
  exact ⟨by simp only [if_neg hno, decide_eq_false hno]; rfl, Grew.setRow hG _ _ (by omega)⟩
 obtain ⟨k, rfl⟩ : ∃ k : Nat, x = (k : Int) + 1 := ⟨(x - 1).toNat, by omega⟩
 have i1 : ¬ ((k : Int) + 1 < 1) := by omega
 have i2 : ¬ ((m : Int) <= (k : Int)) := by omega
 have i3 : (k : Int) < (m : Int) := by omega
 have hkm : k < m := by omega
 have hok : 1 <= (k : Int) + 1 /\ (k : Int) + 1 <= (m : Int) := by omega
 have hi0 : (0 : Int) <= (k : Int) := by omega
 obtain ⟨ad, rfl⟩ := HK.out.addr (by omega);have l1 := HK.out.loadB hkm hG;have hPk : Hid (P ((k : Int) + 1 - 1).toNat = P k) := by congr 1; omega
 go_wp2;refine zqbc rfl _ 43 (ints .u8 32 (P k)) (0, 0) _ _ rfl rfl (zqs _ fk) Tryz.underlying43 rfl (by rw [zqj]; kernel_rfl) rfl ?_
 exact ⟨by simp only [if_pos hok, decide_eq_true hok, hPk.out]; rfl, Grew.setRow hG _ _ (by omega)⟩
end Go.Proofs.YtnjghcnhcbobhaaGreatDoor
namespace Go.Proofs.YtnjghcnhcbobhaaGreatDoor
open Go.RowKit Go.Extern
theorem zqnl (n : Nat) (j : Int) (k : Nat) (u : Nd) (h : (zqaq n j)[k]? = some u) : u.f <= 1024 /\ u.s <= 1024 := by
 by_cases h1 : 1 <= n /\ n <= 1024
 ·obtain ⟨i, -, -, a, b⟩ := zqmi n j h1.1 h1.2 k u h
  exact ⟨a, b⟩
 ·rw [zqgu (by omega)] at h
  simp at h
def cpB (n m : Nat) (C : List Nd) : Bool := C.all fun u => puB n m u.f u.s
def cpN (n m : Nat) (C : List Nd) : Nat := if cpB n m C = true then C.length else 0
def cpZ (n m : Nat) (P : Nat -> Nat -> Int) (C : List Nd) (k : Nat) : Nat -> Int := match C[k]? with | some u => puK n m P u.f u.s | none => zqg
theorem zq8c {n m k : Nat} {P : Nat -> Nat -> Int} {C : List Nd} {u : Nd} (h : C[k]? = some u) : cpZ n m P C k = puK n m P u.f u.s := by unfold cpZ; rw [h]
theorem zqzr {n m : Nat} {C : List Nd} (h : ∀ k u, k < C.length -> C[k]? = some u -> puB n m u.f u.s = true) : cpN n m C = C.length := by
 unfold cpN cpB;rw [if_pos];rw [List.all_eq_true];intro u hu;obtain ⟨k, hk, e⟩ := List.getElem_of_mem hu;exact h k u hk (by rw [List.getElem?_eq_getElem hk, e])
theorem zq9o {n m k : Nat} {C : List Nd} {u : Nd} (h : C[k]? = some u) (hu : puB n m u.f u.s = false) : cpN n m C = 0 := by
 unfold cpN cpB;rw [if_neg];intro ha;rw [List.all_eq_true] at ha;rw [ha u (List.mem_of_getElem? h)] at hu;exact absurd hu (by decide)
theorem zqpq (oa ob : Option Addr) (n c m d : Nat) (f t : Nat -> Int) (P : Nat -> Nat -> Int) (j : Int) (w : World) (hK : K32At w ob m P) (hn : n <= 100000) (hm : m <= 100000) (hj0 : -9223372036854775808 <= j) (hj1 : j <= 9223372036854775807) :
  Calls Tryz.prog 26 #[.agg (stC (.slice oa n c) f (.slice ob m d) t), .int .i64 j] w (zqrv w (cpN n m (zqaq n j)) (cpZ n m P (zqaq n j))) := by
 have HK : Hid (K32At w ob m P) := hK;clear hK;have c2 := fun W : World => zqhw (n : Int) j W hj0 hj1;have hcl := zqev n j;have hsm := hid1 (zqnl n j);generalize zqaq (n : Int) j = C at *;clear hj0 hj1
 go_enter Tryz.func26, Tryz.ntmps26
 go_wp2_with fail;have fb : zqd (w.alloc (.cells (stC (.slice oa n c) f (.slice ob m d) t) 47)) w.heap.size = some (.cells (stC (.slice oa n c) f (.slice ob m d) t) 47) := zqf _ _ _ rfl;have hG : Below w.heap.size w (w.alloc (.cells (stC (.slice oa n c) f (.slice ob m d) t) 47)) := Grew.alloc (Grew.refl _) _;generalize w.alloc (.cells (stC (.slice oa n c) f (.slice ob m d) t) 47) = w1 at *;have lb := zqa fb;go_wp2_with fail;refine (c2 _).mono ?_
 rintro e w3 ⟨oC, kC, rfl, hC, hb3⟩;have HC : Hid (NdsAt w3 oC C) := hC;replace fb := zqb hb3 fb;replace hG : Below w.heap.size w w3 := Grew.trans hG hb3;clear hC hb3 c2 lb;have lb3 := zqa fb;go_wp2_with fail
 go_loopw [16, 5] (fun i v wr => ∃ (k : Nat) (v0 : Value), v0 = v /\ k <= C.length /\ i = .int .i64 k /\ Below w3.heap.size w3 wr /\ Hid (wr.ownsRow w3.heap.size 44 32 v0 k (k32L (cpZ n m P C) k)) /\ Hid (∀ a u, a < k -> C[a]? = some u -> puB n m u.f u.s = true)) (fun i _ _ => C.length - (intOf i).toNat)
 case atStart => exact ⟨0, _, rfl, by omega, rfl, Grew.refl _, World.ownsRow_nil _ _ _ _, hid1 fun a u h => by omega⟩
 case round =>
  obtain ⟨k, v0, rfl, hk, rfl, hM, OWN, HB⟩ := hrel
  by_cases hlt : k < C.length
  ·obtain ⟨u, hu⟩ : ∃ u, C[k]? = some u := ⟨_, List.getElem?_eq_getElem hlt⟩
   obtain ⟨hu1, hu2⟩ := hsm.out k u hu;have hZ := hid1 (zq8c (n := n) (m := m) (P := P) hu);have hcell : ∃ gC o, oC = some ⟨gC, o, none⟩ /\ gC < wr.heap.size /\ cellOf (zqd wr gC) (o + k * 2) = some (.int .i64 u.f) /\ cellOf (zqd wr gC) (o + k * 2 + 1) = some (.int .i64 u.s) := by
    rcases HC.out.later hM with h0 | ⟨g', o', e, hg', hl⟩
    ·subst h0; simp at hlt
    ·obtain ⟨l1, l2⟩ := hl k u hu
     rw [Nat.mul_comm] at l1 l2;exact ⟨g', o', e, hg', l1, l2⟩
   obtain ⟨gC, oo, rfl, hgC, l1, l2⟩ := hcell;have cP := fun (W : World) (hb : Below w.heap.size w W) => zqk1 oa ob n c m d f t P (u.f : Int) (u.s : Int) W (HK.out.later hb) hn hm (by omega) (by omega);have HU := hid1 hu;obtain ⟨y, hy⟩ : ∃ y, puK n m P u.f u.s = y := ⟨_, rfl⟩
   obtain ⟨bb, hbb⟩ : ∃ bb, puB n m u.f u.s = bb := ⟨_, rfl⟩
   rw [hy, hbb] at cP;rw [hy] at hZ;replace hbb := hid1 hbb;have hi1 : (k : Int) < (C.length : Int) := by omega
   have hi0 : (0 : Int) <= (k : Int) := by omega
   have hk20 : k <= 20 := by omega
   have fb1 := zqb hM fb;have lb1 := zqa fb1;clear hu hy;go_wp2_with fail;have fv : zqd (wr.alloc (.cells #[.int .i64 (u.f : Int), .int .i64 (u.s : Int)] 49)) wr.heap.size = some (.cells #[.int .i64 (u.f : Int), .int .i64 (u.s : Int)] 49) := zqf _ _ _ rfl;have hM4 : Below w3.heap.size w3 (wr.alloc (.cells #[.int .i64 (u.f : Int), .int .i64 (u.s : Int)] 49)) := Grew.alloc hM _;have OWN4 : Hid ((wr.alloc (.cells #[.int .i64 (u.f : Int), .int .i64 (u.s : Int)] 49)).ownsRow w3.heap.size 44 32 v0 k (k32L (cpZ n m P C) k)) := OWN.out.alloc _;have fb4 := zqi (.cells #[.int .i64 (u.f : Int), .int .i64 (u.s : Int)] 49) fb1;clear hM OWN l1 l2 hgC fb1 lb1;generalize wr.alloc (.cells #[.int .i64 (u.f : Int), .int .i64 (u.s : Int)] 49) = w4 at *;generalize wr.heap.size = gv at *;have lfv := zqa fv;have lb4 := zqa fb4;go_wp2_with fail
   refine (cP _ (Grew.trans hG hM4)).mono ?_
   rintro e w5 ⟨rfl, hb5⟩;have hM5 := Grew.trans hM4 hb5;have OWN5 : Hid (w5.ownsRow w3.heap.size 44 32 v0 k (k32L (cpZ n m P C) k)) := zqcc OWN4.out hb5;have fv5 := zqb hb5 fv;clear hM4 OWN4 hb5 cP fv lfv fb4 lb4;have fk : zqd (w5.alloc (.cells (ints .u8 32 y) 44)) w5.heap.size = some (.cells (ints .u8 32 y) 44) := zqf _ _ _ rfl;have hM6 : Below w3.heap.size w3 (w5.alloc (.cells (ints .u8 32 y) 44)) := Grew.alloc hM5 _;have OWN6 : Hid ((w5.alloc (.cells (ints .u8 32 y) 44)).ownsRow w3.heap.size 44 32 v0 k (k32L (cpZ n m P C) k)) := OWN5.out.alloc _
   cases bb with
   | false =>
    have hz0 := hid1 (zq9o HU.out hbb.out);go_wp2;go_ret;exact ⟨none, 0, by rw [hz0.out]; rfl, by rw [hz0.out]; exact .inl rfl, Grew.trans hG hM6⟩
   | true =>
    obtain ⟨g3, c3, w7, hr3, own3, hb7, -⟩ := zqje w3 ((w5.alloc (.cells (ints .u8 32 y) 44)).alloc (.cells (ints .u8 32 y) 44)) w3.heap.size v0 k (cpZ n m P C) (w5.heap.size + 1) _ _ (OWN6.out.alloc _) (by omega) (by rw [hZ.out]; exact zqf _ _ _ (by simp)) (Grew.alloc hM6 _) (Nat.le_refl _) (by simp; have := hM5.size; omega);have OWN7 : Hid (w7.ownsRow w3.heap.size 44 32 (.slice (some ⟨g3, 0, none⟩) (k + 1) c3) (k + 1) (k32L (cpZ n m P C) (k + 1))) := own3;have HB7 : Hid (∀ a u, a < k + 1 -> C[a]? = some u -> puB n m u.f u.s = true) := hid1 fun a u9 ha h9 => by
     by_cases hak : a = k
     ·subst hak
      have e9 : u9 = u := Option.some.inj (h9.symm.trans HU.out);rw [e9];exact hbb.out
     ·exact HB.out a u9 (by omega) h9
    have lk := zqa fk;clear own3 OWN6 OWN5 fv5;go_wp2
    go_roundw
    case rel => first | exact ⟨k + 1, _, rfl, by omega, by go_num, hb7, OWN7, HB7⟩ | ((repeat' apply Exists.intro) <;> first | exact ⟨⟨k + 1, _, rfl, by omega, by go_num, hb7, OWN7, HB7⟩, rfl⟩ | exact undef)
    case measure => (simp [intOf] <;> omega)
  ·obtain rfl : k = C.length := by omega
   have hz1 := hid1 (zqzr (fun a u ha => HB.out a u ha));obtain ⟨oa2, c2, rfl, -, hK2⟩ := zqey OWN.out;have HK2 : Hid (K32At wr oa2 C.length (cpZ n m P C)) := hK2;clear OWN hK2;go_wp2;go_ret;exact ⟨oa2, c2, by rw [hz1.out]; rfl, by rw [hz1.out]; exact HK2.out, Grew.trans hG hM⟩
theorem zqo1 (oa ob : Option Addr) (n c m d : Nat) (f t : Nat -> Int) (P : Nat -> Nat -> Int) (j : Int) (w : World) (hK : K32At w ob m P) (hn : n <= 100000) (hm : m <= 100000) (hj0 : -9223372036854775808 <= j) (hj1 : j <= 9223372036854775807) :
  Calls Tryz.prog 27 #[.agg (stC (.slice oa n c) f (.slice ob m d) t), .int .i64 j] w (zqrv w (cpN n m (zqaq n j)) (cpZ n m P (zqaq n j))) := by
 have HK : Hid (K32At w ob m P) := hK;clear hK;have c2 := fun W : World => zqsn (n : Int) j W;have hcl := zqev n j;have hsm := hid1 (zqnl n j);generalize zqaq (n : Int) j = C at *;clear hj0 hj1
 go_enter Tryz.func27, Tryz.ntmps27
 go_wp2_with fail;have fb : zqd (w.alloc (.cells (stC (.slice oa n c) f (.slice ob m d) t) 53)) w.heap.size = some (.cells (stC (.slice oa n c) f (.slice ob m d) t) 53) := zqf _ _ _ rfl;have hG : Below w.heap.size w (w.alloc (.cells (stC (.slice oa n c) f (.slice ob m d) t) 53)) := Grew.alloc (Grew.refl _) _;generalize w.alloc (.cells (stC (.slice oa n c) f (.slice ob m d) t) 53) = w1 at *;have lb := zqa fb;go_wp2_with fail;refine (c2 _).mono ?_
 rintro e w3 ⟨oC, kC, rfl, hC, hb3⟩;have HC : Hid (NdsAt w3 oC C) := hC;replace fb := zqb hb3 fb;replace hG : Below w.heap.size w w3 := Grew.trans hG hb3;clear hC hb3 c2 lb;have lb3 := zqa fb;go_wp2_with fail
 go_loopw [16, 5] (fun i v wr => ∃ (k : Nat) (v0 : Value), v0 = v /\ k <= C.length /\ i = .int .i64 k /\ Below w3.heap.size w3 wr /\ Hid (wr.ownsRow w3.heap.size 43 32 v0 k (k32L (cpZ n m P C) k)) /\ Hid (∀ a u, a < k -> C[a]? = some u -> puB n m u.f u.s = true)) (fun i _ _ => C.length - (intOf i).toNat)
 case atStart => exact ⟨0, _, rfl, by omega, rfl, Grew.refl _, World.ownsRow_nil _ _ _ _, hid1 fun a u h => by omega⟩
 case round =>
  obtain ⟨k, v0, rfl, hk, rfl, hM, OWN, HB⟩ := hrel
  by_cases hlt : k < C.length
  ·obtain ⟨u, hu⟩ : ∃ u, C[k]? = some u := ⟨_, List.getElem?_eq_getElem hlt⟩
   obtain ⟨hu1, hu2⟩ := hsm.out k u hu;have hZ := hid1 (zq8c (n := n) (m := m) (P := P) hu);have hcell : ∃ gC o, oC = some ⟨gC, o, none⟩ /\ gC < wr.heap.size /\ cellOf (zqd wr gC) (o + k * 2) = some (.int .i64 u.f) /\ cellOf (zqd wr gC) (o + k * 2 + 1) = some (.int .i64 u.s) := by
    rcases HC.out.later hM with h0 | ⟨g', o', e, hg', hl⟩
    ·subst h0; simp at hlt
    ·obtain ⟨l1, l2⟩ := hl k u hu
     rw [Nat.mul_comm] at l1 l2;exact ⟨g', o', e, hg', l1, l2⟩
   obtain ⟨gC, oo, rfl, hgC, l1, l2⟩ := hcell;have cP := fun (W : World) (hb : Below w.heap.size w W) => zqk6 oa ob n c m d f t P (u.f : Int) (u.s : Int) W (HK.out.later hb) hn hm (by omega) (by omega);have HU := hid1 hu;obtain ⟨y, hy⟩ : ∃ y, puK n m P u.f u.s = y := ⟨_, rfl⟩
   obtain ⟨bb, hbb⟩ : ∃ bb, puB n m u.f u.s = bb := ⟨_, rfl⟩
   rw [hy, hbb] at cP;rw [hy] at hZ;replace hbb := hid1 hbb;have hi1 : (k : Int) < (C.length : Int) := by omega
   have hi0 : (0 : Int) <= (k : Int) := by omega
   have hk20 : k <= 20 := by omega
   have fb1 := zqb hM fb;have lb1 := zqa fb1;clear hu hy;go_wp2_with fail;have fv : zqd (wr.alloc (.cells #[.int .i64 (u.f : Int), .int .i64 (u.s : Int)] 68)) wr.heap.size = some (.cells #[.int .i64 (u.f : Int), .int .i64 (u.s : Int)] 68) := zqf _ _ _ rfl;have hM4 : Below w3.heap.size w3 (wr.alloc (.cells #[.int .i64 (u.f : Int), .int .i64 (u.s : Int)] 68)) := Grew.alloc hM _;have OWN4 : Hid ((wr.alloc (.cells #[.int .i64 (u.f : Int), .int .i64 (u.s : Int)] 68)).ownsRow w3.heap.size 43 32 v0 k (k32L (cpZ n m P C) k)) := OWN.out.alloc _;have fb4 := zqi (.cells #[.int .i64 (u.f : Int), .int .i64 (u.s : Int)] 68) fb1;clear hM OWN l1 l2 hgC fb1 lb1;generalize wr.alloc (.cells #[.int .i64 (u.f : Int), .int .i64 (u.s : Int)] 68) = w4 at *;generalize wr.heap.size = gv at *;have lfv := zqa fv;have lb4 := zqa fb4;go_wp2_with fail
   refine (cP _ (Grew.trans hG hM4)).mono ?_
   rintro e w5 ⟨rfl, hb5⟩;have hM5 := Grew.trans hM4 hb5;have OWN5 : Hid (w5.ownsRow w3.heap.size 43 32 v0 k (k32L (cpZ n m P C) k)) := zqcc OWN4.out hb5;have fv5 := zqb hb5 fv;clear hM4 OWN4 hb5 cP fv lfv fb4 lb4;have fk : zqd (w5.alloc (.cells (ints .u8 32 y) 43)) w5.heap.size = some (.cells (ints .u8 32 y) 43) := zqf _ _ _ rfl;have hM6 : Below w3.heap.size w3 (w5.alloc (.cells (ints .u8 32 y) 43)) := Grew.alloc hM5 _;have OWN6 : Hid ((w5.alloc (.cells (ints .u8 32 y) 43)).ownsRow w3.heap.size 43 32 v0 k (k32L (cpZ n m P C) k)) := OWN5.out.alloc _
   cases bb with
   | false =>
    have hz0 := hid1 (zq9o HU.out hbb.out);go_wp2;go_ret;exact ⟨none, 0, by rw [hz0.out]; rfl, by rw [hz0.out]; exact .inl rfl, Grew.trans hG hM6⟩
   | true =>
    obtain ⟨g3, c3, w7, hr3, own3, hb7, -⟩ := zqno w3 ((w5.alloc (.cells (ints .u8 32 y) 43)).alloc (.cells (ints .u8 32 y) 43)) w3.heap.size v0 k (cpZ n m P C) (w5.heap.size + 1) _ _ (OWN6.out.alloc _) (by omega) (by rw [hZ.out]; exact zqf _ _ _ (by simp)) (Grew.alloc hM6 _) (Nat.le_refl _) (by simp; have := hM5.size; omega);have OWN7 : Hid (w7.ownsRow w3.heap.size 43 32 (.slice (some ⟨g3, 0, none⟩) (k + 1) c3) (k + 1) (k32L (cpZ n m P C) (k + 1))) := own3;have HB7 : Hid (∀ a u, a < k + 1 -> C[a]? = some u -> puB n m u.f u.s = true) := hid1 fun a u9 ha h9 => by
     by_cases hak : a = k
     ·subst hak
      have e9 : u9 = u := Option.some.inj (h9.symm.trans HU.out);rw [e9];exact hbb.out
     ·exact HB.out a u9 (by omega) h9
    have lk := zqa fk;clear own3 OWN6 OWN5 fv5;go_wp2
    go_roundw
    case rel => first | exact ⟨k + 1, _, rfl, by omega, by go_num, hb7, OWN7, HB7⟩ | ((repeat' apply Exists.intro) <;> first | exact ⟨⟨k + 1, _, rfl, by omega, by go_num, hb7, OWN7, HB7⟩, rfl⟩ | exact undef)
    case measure => (simp [intOf] <;> omega)
  ·obtain rfl : k = C.length := by omega
   have hz1 := hid1 (zqzr (fun a u ha => HB.out a u ha));obtain ⟨oa2, c2, rfl, -, hK2⟩ := zqey OWN.out;have HK2 : Hid (K32At wr oa2 C.length (cpZ n m P C)) := hK2;clear OWN hK2;go_wp2;go_ret;exact ⟨oa2, c2, by rw [hz1.out]; rfl, by rw [hz1.out]; exact HK2.out, Grew.trans hG hM⟩
end Go.Proofs.YtnjghcnhcbobhaaGreatDoor
namespace Go.Proofs.YtnjghcnhcbobhaaGreatDoor
open Go.RowKit Go.Extern
def fsI (N : Nat -> Int) (z : Int) : Nat -> Nat -> Int
 | _, 0 => -1
 | i, d + 1 => if N i = z then (i : Int) else fsI N z (i + 1) d
theorem zqoz {N : Nat -> Int} {z : Int} {k n : Nat} (hk : k < n) (h : N k = z) : fsI N z k (n - k) = k := by
 obtain ⟨d, rfl⟩ : ∃ d, n = k + (d + 1) := ⟨n - k - 1, by omega⟩
 rw [show k + (d + 1) - k = d + 1 by omega, fsI, if_pos h]
theorem zqkw {N : Nat -> Int} {z : Int} {k n : Nat} (hk : k < n) (h : ¬ N k = z) : fsI N z k (n - k) = fsI N z (k + 1) (n - (k + 1)) := by
 obtain ⟨d, rfl⟩ : ∃ d, n = k + (d + 1) := ⟨n - k - 1, by omega⟩
 rw [show k + (d + 1) - k = d + 1 by omega, show k + (d + 1) - (k + 1) = d by omega, fsI, if_neg h]
theorem zqht {N : Nat -> Int} {z : Int} (n : Nat) : fsI N z n (n - n) = -1 := by rw [Nat.sub_self]; rfl
theorem zqr3 (N : Nat -> Int) (z : Int) : ∀ (d i : Nat), fsI N z i d = -1 \/ ∃ k : Nat, i <= k /\ k < i + d /\ fsI N z i d = (k : Int)
 | 0, i => .inl rfl
 | d + 1, i => by
  rw [fsI]
  split
  ·exact .inr ⟨i, by omega, by omega, rfl⟩
  ·rcases zqr3 N z d (i + 1) with h | ⟨k, a, b, h⟩
   ·exact .inl h
   ·exact .inr ⟨k, by omega, by omega, h⟩
theorem zq1v (x y z : Int) (gp : Nat) (w : World) (hj : zqd w gp = some (.cells #[.int .u32 z] 22)) :
  Calls Tryz.prog 67 #[.agg #[.int .u32 x, .int .u32 y], .pointer (some ⟨gp, 0, none⟩)] w (Rt w (.bool (decide (x = z)))) := by
 go_enter Tryz.func67, Tryz.ntmps67
 have lgp := zqa hj;go_wp2_with fail;have fv : zqd (w.alloc (.cells #[.int .u32 x, .int .u32 y] 63)) w.heap.size = some (.cells #[.int .u32 x, .int .u32 y] 63) := zqf _ _ _ rfl;have hG : Below w.heap.size w (w.alloc (.cells #[.int .u32 x, .int .u32 y] 63)) := Grew.alloc (Grew.refl _) _;have fj := zqi (.cells #[.int .u32 x, .int .u32 y] 63) hj;generalize w.alloc (.cells #[.int .u32 x, .int .u32 y] 63) = w1 at *;have lv := zqa fv;have lj := zqa fj;clear hj lgp;have hbb : Hid ((x == z) = decide (x = z)) := by
  show (x == z) = decide (x = z)
  by_cases he : x = z <;> simp [he]
 go_wp2;go_ret;exact ⟨by rw [<- hbb.out]; rfl, hG⟩
theorem zrar (oa : Option Addr) (n c : Nat) (N I : Nat -> Int) (z : Int) (gp : Nat) (w : World) (hn : n <= 100000) (hP : SeAt w oa n N I) (hj : zqd w gp = some (.cells #[.int .u32 z] 22)) :
  Calls Tryz.prog 66 #[.slice oa n c, .func (.func 67) #[] #[.pointer (some ⟨gp, 0, none⟩)]] w (Rt w (.int .i64 (fsI N z 0 n))) := by
 have HP : Hid (SeAt w oa n N I) := hP;have hR : Hid (fsI N z 0 (n - 0) = fsI N z 0 n) := rfl;obtain ⟨R, hRe⟩ : ∃ R, fsI N z 0 n = R := ⟨_, rfl⟩
 rw [hRe] at hR ⊢;have cT : Hid (∀ (x y : Int) (W : World), zqd W gp = some (.cells #[.int .u32 z] 22) -> Calls Tryz.prog 67 #[.agg #[.int .u32 x, .int .u32 y], .pointer (some ⟨gp, 0, none⟩)] W (Rt W (.bool (decide (x = z))))) := fun x y W h => zq1v x y z gp W h;have lgp := zqa hj;clear hRe hP
 go_enter Tryz.func66, Tryz.ntmps66
 go_wp2_with fail
 go_loopw [8, 5] (fun i _ wr => ∃ k : Nat, k <= n /\ i = .int .i64 k /\ Below w.heap.size w wr /\ Hid (fsI N z k (n - k) = R)) (fun i _ _ => n - (intOf i).toNat)
 case atStart => exact ⟨0, by omega, rfl, Grew.refl _, hR⟩
 case round =>
  obtain ⟨k, hk, rfl, hM, hI⟩ := hrel
  by_cases hlt : k < n
  ·obtain ⟨ad, rfl, -⟩ := HP.out.blk (by omega)
   have hl := (HP.out.later hM).load_se hlt;have hi1 : (k : Int) < (n : Int) := by omega
   have hi0 : (0 : Int) <= (k : Int) := by omega
   have hk9 : (k : Int) <= 100000 := by omega
   have hjr := zqb hM hj;have cU := fun W : World => cT.out (N k) (I k) W
   by_cases he : N k = z
   ·have e := hI.out
    rw [zqoz hlt he] at e;rw [decide_eq_true he] at cU;subst e;clear hI hR he cT;go_wp2_with fail;refine (cU _ hjr).mono ?_
    rintro e w5 ⟨rfl, hb5⟩;have hM2 : Below w.heap.size w w5 := Grew.trans hM hb5;clear hl hb5 hjr cU;go_wp2;go_ret;exact ⟨rfl, hM2⟩
   ·have e := hI.out
    rw [zqkw hlt he] at e;have E : Hid (fsI N z (k + 1) (n - (k + 1)) = R) := e;rw [decide_eq_false he] at cU;clear hI hR e he cT;go_wp2_with fail;refine (cU _ hjr).mono ?_
    rintro e w5 ⟨rfl, hb5⟩;have hM2 : Below w.heap.size w w5 := Grew.trans hM hb5;clear hl hb5 hjr cU;go_wp2
    go_roundw
    case rel => first | exact ⟨k + 1, by omega, by go_num, hM2, E⟩ | ((repeat' apply Exists.intro) <;> first | exact ⟨⟨k + 1, by omega, by go_num, hM2, E⟩, rfl⟩ | exact undef)
    case measure => (simp [intOf] <;> omega)
  ·obtain rfl : k = n := by omega
   have e := hI.out;rw [zqht] at e;subst e;clear hI hR;go_wp2;go_ret;exact ⟨rfl, hM⟩
theorem zqmk (oa ob : Option Addr) (n c m d : Nat) (f t N I : Nat -> Int) (z : Int) (w : World) (hn : n <= 100000) (hP : SeAt w oa n N I) :
  Calls Tryz.prog 22 #[.agg (stC (.slice oa n c) f (.slice ob m d) t), .int .u32 z] w (Rt w (.tuple #[.int .i64 (max (fsI N z 0 n) 0), .bool (decide (0 <= fsI N z 0 n))])) := by
 have HP : Hid (SeAt w oa n N I) := hP;have hbd : -1 <= fsI N z 0 n /\ fsI N z 0 n <= 200000 := by
  rcases zqr3 N z n 0 with h | ⟨k, a, b, h⟩ <;> rw [h] <;> omega
 have cI := fun (gp : Nat) (W : World) (hb : Below w.heap.size w W) => zrar oa n c N I z gp W hn (HP.out.later hb);have hmf : ∀ (fn : Fn) (first cap : Array Value) (w : World), (Instr.makeFunc fn first cap).run Tryz.prog w = .ok (.func fn first cap) w := fun _ _ _ _ => rfl;generalize fsI N z 0 n = R at *;clear hP
 go_enter Tryz.func22, Tryz.ntmps22
 go_wp2_with fail;have fb : zqd ((w.alloc (.cells (stC (.slice oa n c) f (.slice ob m d) t) 47)).alloc (.cells #[.int .u32 z] 22)) w.heap.size = some (.cells (stC (.slice oa n c) f (.slice ob m d) t) 47) := zqi _ (zqf _ _ _ rfl);have fz : zqd ((w.alloc (.cells (stC (.slice oa n c) f (.slice ob m d) t) 47)).alloc (.cells #[.int .u32 z] 22)) (w.heap.size + 1) = some (.cells #[.int .u32 z] 22) := zqf _ _ _ (by simp);have hG : Below w.heap.size w ((w.alloc (.cells (stC (.slice oa n c) f (.slice ob m d) t) 47)).alloc (.cells #[.int .u32 z] 22)) := Grew.alloc (Grew.alloc (Grew.refl _) _) _;generalize (w.alloc (.cells (stC (.slice oa n c) f (.slice ob m d) t) 47)).alloc (.cells #[.int .u32 z] 22) = w1 at *;generalize w.heap.size + 1 = gz at *;have lb := zqa fb;have lz := zqa fz;go_wp2_with fail;refine (cI _ _ hG fz).mono ?_
 rintro e w2 ⟨rfl, hb⟩;replace hG := Grew.trans hG hb;clear hb cI fb fz lb lz;go_wp2;refine ⟨rfl, .tuple #[.int .i64 (max R 0), .bool (decide (0 <= R))], ?_, rfl, hG⟩
 first | rfl | kernel_rfl | simp [go_sem, results]
end Go.Proofs.YtnjghcnhcbobhaaGreatDoor
namespace Go.Proofs.YtnjghcnhcbobhaaGreatDoor
open Go.RowKit Go.Extern
theorem zqfx {w : World} {u : Value} {E : Int} (h : ErV w u E) (h0 : E ≠ 0) : ∃ t x, u = .iface t x := by
 rcases h with ⟨h, -⟩ | ⟨-, t, x, l, h, -⟩
 ·exact absurd h h0
 ·exact ⟨t, x, h⟩
theorem zql8 (aw : ∀ (w : World), Tabs w -> EtAt w -> Calls Tryz.prog 14 #[] w (Rt w (.bool true))) (oa ob : Option Addr) (n c m d : Nat) (f t N I : Nat -> Int) (P : Nat -> Nat -> Int) (z a b lf : Int) (w : World) (hP : SeAt w oa n N I) (hN : ∀ j, j < n -> 0 <= N j /\ N j < 4294967296) (hI : ∀ j, j < n -> 0 <= I j /\ I j < 4294967296) (hK : K32At w ob m P) (gP : ∀ j, j < m -> Bytes 32 (P j)) (gf : Bytes 32 f) (gt : Bytes 32 t) (ha0 : -9223372036854775808 <= a) (ha1 : a <= 9223372036854775807) (hl0 : -9223372036854775808 <= lf) (hl1 : lf <= 9223372036854775807) (hT : Tabs w) (hE : EtAt w) :
  Calls Tryz.prog 4 #[.agg (stC (.slice oa n c) f (.slice ob m d) t), .int .u32 z, .agg #[.int .i64 a, .int .i64 b], .int .i64 lf] w (Rt w (.bool true)) := by
 have HE : Hid (EtAt w) := hE;have HP : Hid (SeAt w oa n N I) := hP;have HK : Hid (K32At w ob m P) := hK;have GP := hid1 gP;have HN := hid1 hN;have HI := hid1 hI;have HA := hid1 (And.intro ha0 ha1);have HL := hid1 (And.intro hl0 hl1);clear hP gP hK hN hI ha0 ha1 hl0 hl1
 go_enter Tryz.func4, Tryz.ntmps4
 go_wp2_with fail;have f0 : zqd ((w.alloc (.cells (stC (.slice oa n c) f (.slice ob m d) t) 47)).alloc (.cells #[.int .i64 a, .int .i64 b] 49)) w.heap.size = some (.cells (stC (.slice oa n c) f (.slice ob m d) t) 47) := zqi _ (zqf _ _ _ rfl);have f6 : zqd ((w.alloc (.cells (stC (.slice oa n c) f (.slice ob m d) t) 47)).alloc (.cells #[.int .i64 a, .int .i64 b] 49)) (w.heap.size + 1) = some (.cells #[.int .i64 a, .int .i64 b] 49) := zqf _ _ _ (by simp);have hG : Below w.heap.size w ((w.alloc (.cells (stC (.slice oa n c) f (.slice ob m d) t) 47)).alloc (.cells #[.int .i64 a, .int .i64 b] 49)) := Grew.alloc (Grew.alloc (Grew.refl _) _) _;have aw1 := aw ((w.alloc (.cells (stC (.slice oa n c) f (.slice ob m d) t) 47)).alloc (.cells #[.int .i64 a, .int .i64 b] 49)) (hT.later hG) (hE.later hG);clear aw hT hE
 generalize (w.alloc (.cells (stC (.slice oa n c) f (.slice ob m d) t) 47)).alloc (.cells #[.int .i64 a, .int .i64 b] 49) = w0 at *;generalize w.heap.size + 1 = g6 at *;refine aw1.mono ?_
 rintro e w1 ⟨rfl, hb⟩;replace f0 := zqb hb f0;replace f6 := zqb hb f6;replace hG := Grew.trans hG hb;clear hb aw1;have l0 := zqa f0;have l6 := zqa f6
 by_cases hn : (40 : Int) < (n : Int)
 ·by_cases hn3 : (n : Int) <= 1024
  ·go_wp2
   go_ret;exact ⟨rfl, hG⟩
  by_cases hn4 : (1100 : Int) < (n : Int)
  ·go_wp2
   go_ret;exact ⟨rfl, hG⟩
  by_cases hm1 : (100 : Int) < (m : Int)
  ·go_wp2
   go_ret;exact ⟨rfl, hG⟩
  have hch : chkE n N m ≠ 0 := by rw [zqil (by omega)]; decide
  have cW := fun (W : World) (hb : Below w.heap.size w W) => zqn7 oa ob n c m d f t N I W (HP.out.later hb) HN.out (by omega) (by omega) hch;have cB := fun (W : World) (hb : Below w.heap.size w W) => zqmb oa ob n c m d f t N I W (HP.out.later hb) HN.out (by omega) (by omega) hch;have cC := fun (W : World) (hb : Below w.heap.size w W) => zqfu oa ob n c m d f t N I W (by omega) (by omega) (HP.out.later hb) HN.out;replace hch := hid1 hch;have cO := zqpd oa ob n c m d f t N I P w1 (by omega) (by omega) (HP.out.later hG) (HK.out.later hG);go_wp2_with fail;refine cO.mono ?_
  rintro e w2 ⟨v, rfl, ⟨pa, pb, c1, d1, rfl, hs1, hk1⟩, hb⟩;have HR : Hid (SeAt (w2.alloc (.cells (stC (.slice pa n c1) f (.slice pb m d1) t) 53)) pa n N I /\ K32At (w2.alloc (.cells (stC (.slice pa n c1) f (.slice pb m d1) t) 53)) pb m P) := ⟨hs1.later (Grew.alloc (Grew.refl _) _), hk1.later (Grew.alloc (Grew.refl _) _)⟩
  replace f0 := zqi (.cells (stC (.slice pa n c1) f (.slice pb m d1) t) 53) (zqb hb f0);replace f6 := zqi (.cells (stC (.slice pa n c1) f (.slice pb m d1) t) 53) (zqb hb f6);have f9 : zqd (w2.alloc (.cells (stC (.slice pa n c1) f (.slice pb m d1) t) 53)) w2.heap.size = some (.cells (stC (.slice pa n c1) f (.slice pb m d1) t) 53) := zqf _ _ _ rfl;replace hG := Grew.alloc (Grew.trans hG hb) (.cells (stC (.slice pa n c1) f (.slice pb m d1) t) 53);clear hb cO hs1 hk1 l0 l6;go_wp2_with fail;generalize w2.alloc (.cells (stC (.slice pa n c1) f (.slice pb m d1) t) 53) = w3 at *;generalize w2.heap.size = g9 at *;have l0 := zqa f0;have l6 := zqa f6;have l9 := zqa f9;have hB3 : Below w3.heap.size w3 w3 := Grew.refl _
  have cRW := fun (W : World) (hb : Below w3.heap.size w3 W) => zqkl pa pb n c1 m d1 f t N I P W (HR.out.1.later hb) HN.out HI.out (HR.out.2.later hb) (by omega) (by omega) hch.out;have cE := fun (u : Value) (W W2 : World) (E : Int) (hu : ErV W u E) (hb : Below w.heap.size w W2) (h2 : Below W.heap.size W W2) => zqs8 (E := E) u (HE.out.later hb) (hu.later h2);replace hch := hch.out;generalize chkE n N m = X9 at *;have hx0 : (X9 == 0) = false := by simp [hch]
  have hx1 : ¬ (X9 = 0) := hch;refine (cW _ hG).mono ?_
  rintro e x0 ⟨u, rfl, hu, hb⟩;replace f0 := zqb hb f0;replace f6 := zqb hb f6;replace f9 := zqb hb f9;replace hG := Grew.trans hG hb;replace hB3 := Grew.trans hB3 hb;clear hb l0 l6 l9;have l0 := zqa f0;have l6 := zqa f6;have l9 := zqa f9;obtain ⟨tw, xw, rfl⟩ := zqfx hu hch;have huw := hid1 hu;have hbw : Below x0.heap.size x0 x0 := Grew.refl _;clear hu;go_wp2_with fail;refine (cRW _ hB3).mono ?_
  rintro e x1 ⟨rfl, hb⟩;replace f0 := zqb hb f0;replace f6 := zqb hb f6;replace f9 := zqb hb f9;replace hG := Grew.trans hG hb;replace hB3 := Grew.trans hB3 hb;replace hbw := Grew.trans hbw hb;clear hb l0 l6 l9;have l0 := zqa f0;have l6 := zqa f6;have l9 := zqa f9;go_wp2_with fail;refine (cB _ hG).mono ?_
  rintro e x2 ⟨u, rfl, hu, hb⟩;replace f0 := zqb hb f0;replace f6 := zqb hb f6;replace f9 := zqb hb f9;replace hG := Grew.trans hG hb;replace hB3 := Grew.trans hB3 hb;replace hbw := Grew.trans hbw hb;clear hb l0 l6 l9;have l0 := zqa f0;have l6 := zqa f6;have l9 := zqa f9;obtain ⟨tb, xb, rfl⟩ := zqfx hu hch;have hub := hid1 hu;have hbb : Below x2.heap.size x2 x2 := Grew.refl _;clear hu;go_wp2_with fail;refine (cE _ _ _ _ huw.out hG hbw).mono ?_
  rintro e x3 ⟨rfl, hb⟩;replace f0 := zqb hb f0;replace f6 := zqb hb f6;replace f9 := zqb hb f9;replace hG := Grew.trans hG hb;replace hB3 := Grew.trans hB3 hb;replace hbb := Grew.trans hbb hb;replace hbw := Grew.trans hbw hb;clear hb l0 l6 l9;have l0 := zqa f0;have l6 := zqa f6;have l9 := zqa f9;go_wp2_with fail;refine (cC _ hG).mono ?_
  rintro e x4 ⟨u, rfl, hu, hb⟩;replace f0 := zqb hb f0;replace f6 := zqb hb f6;replace f9 := zqb hb f9;replace hG := Grew.trans hG hb;replace hB3 := Grew.trans hB3 hb;replace hbb := Grew.trans hbb hb;replace hbw := Grew.trans hbw hb;clear hb l0 l6 l9;have l0 := zqa f0;have l6 := zqa f6;have l9 := zqa f9;obtain ⟨tk, xk, rfl⟩ := zqfx hu hch;have huk := hid1 hu;have hbk : Below x4.heap.size x4 x4 := Grew.refl _;clear hu;go_wp2_with fail;refine (cE _ _ _ _ huk.out hG hbk).mono ?_
  rintro e x5 ⟨rfl, hb⟩;replace f0 := zqb hb f0;replace f6 := zqb hb f6;replace f9 := zqb hb f9;replace hG := Grew.trans hG hb;replace hB3 := Grew.trans hB3 hb;replace hbk := Grew.trans hbk hb;replace hbb := Grew.trans hbb hb;replace hbw := Grew.trans hbw hb;clear hb l0 l6 l9;have l0 := zqa f0;have l6 := zqa f6;have l9 := zqa f9;go_wp2_with fail;refine (cE _ _ _ _ hub.out hG hbb).mono ?_
  rintro e x6 ⟨rfl, hb⟩;replace f0 := zqb hb f0;replace f6 := zqb hb f6;replace f9 := zqb hb f9;replace hG := Grew.trans hG hb;replace hB3 := Grew.trans hB3 hb;replace hbk := Grew.trans hbk hb;replace hbb := Grew.trans hbb hb;replace hbw := Grew.trans hbw hb;clear hb l0 l6 l9;have l0 := zqa f0;have l6 := zqa f6;have l9 := zqa f9;clear cW cRW cB cC cE;have hF := zqr3 N z n 0;have cS := fun (W : World) (hb : Below w.heap.size w W) => zqmk oa ob n c m d f t N I z W (by omega) (HP.out.later hb);have cU := fun (W : World) (hb : Below w.heap.size w W) => zqk1 oa ob n c m d f t P a b W (HK.out.later hb) (by omega) (by omega) HA.out.1 HA.out.2;have cV := fun (W : World) (hb : Below w3.heap.size w3 W) => zqk6 pa pb n c1 m d1 f t P a b W (HR.out.2.later hb) (by omega) (by omega) HA.out.1 HA.out.2
  obtain ⟨R, hR⟩ : ∃ R, fsI N z 0 n = R := ⟨_, rfl⟩
  rw [hR] at cS;generalize puK n m P a b = y at *;generalize puB n m a b = B at *;clear hF;replace hR := hid1 hR;go_wp2_with fail;refine (cS _ hG).mono ?_
  rintro e y0 ⟨rfl, hb⟩;replace f0 := zqb hb f0;replace f6 := zqb hb f6;replace f9 := zqb hb f9;replace hG := Grew.trans hG hb;replace hB3 := Grew.trans hB3 hb;clear hb l0 l6 l9;have l0 := zqa f0;have l6 := zqa f6;have l9 := zqa f9;clear cS;go_wp2_with fail
  go_loopw [18, 19, 20] (fun at9 is9 k wr => ∃ i : Nat, i <= n /\ k = .int .i64 ((i : Int) - 1) /\ at9 = .int .i64 (max (fsI N z i (n - i)) 0) /\ is9 = .bool (decide (0 <= fsI N z i (n - i))) /\ wr = y0) (fun _ _ k _ => (intOf k + 1).toNat)
  case atStart => exact ⟨n, Nat.le_refl _, by go_num, by rw [zqht]; rfl, by rw [zqht]; rfl, rfl⟩
  case round =>
   obtain ⟨i, hi, rfl, rfl, rfl, rfl⟩ := hrel
   by_cases h0 : i = 0
   ·subst h0
    rw [show n - 0 = n from rfl, hR.out];go_wp2_with fail;refine (cU _ hG).mono ?_
    rintro e y1 ⟨rfl, hb⟩;replace f0 := zqb hb f0;replace f6 := zqb hb f6;replace f9 := zqb hb f9;replace hG := Grew.trans hG hb;replace hB3 := Grew.trans hB3 hb;clear hb l0 l6 l9;have l0 := zqa f0;have l6 := zqa f6;have l9 := zqa f9;have fk1 : zqd (y1.alloc (.cells (ints .u8 32 y) 44)) y1.heap.size = some (.cells (ints .u8 32 y) 44) := zqf _ _ _ rfl;replace f0 := zqi (.cells (ints .u8 32 y) 44) f0;replace f6 := zqi (.cells (ints .u8 32 y) 44) f6;replace f9 := zqi (.cells (ints .u8 32 y) 44) f9;replace hG := Grew.alloc hG (.cells (ints .u8 32 y) 44);replace hB3 := Grew.alloc hB3 (.cells (ints .u8 32 y) 44);go_wp2_with fail;clear l0 l6 l9;generalize y1.alloc (.cells (ints .u8 32 y) 44) = y2 at *;generalize y1.heap.size = gk1 at *;refine (cV _ hB3).mono ?_
    rintro e y3 ⟨rfl, hb⟩;replace f0 := zqb hb f0;replace f6 := zqb hb f6;replace f9 := zqb hb f9;replace hG := Grew.trans hG hb;replace hB3 := Grew.trans hB3 hb;replace fk1 := zqb hb fk1;clear hb;have l0 := zqa f0;have l6 := zqa f6;have l9 := zqa f9;have fk2 : zqd (y3.alloc (.cells (ints .u8 32 y) 43)) y3.heap.size = some (.cells (ints .u8 32 y) 43) := zqf _ _ _ rfl;replace f0 := zqi (.cells (ints .u8 32 y) 43) f0;replace f9 := zqi (.cells (ints .u8 32 y) 43) f9;replace fk1 := zqi (.cells (ints .u8 32 y) 43) fk1;replace hG := Grew.alloc hG (.cells (ints .u8 32 y) 43);replace hB3 := Grew.alloc hB3 (.cells (ints .u8 32 y) 43);go_wp2_with fail;clear l0 l6 l9 cU cV f6;generalize y3.alloc (.cells (ints .u8 32 y) 43) = y4 at *;generalize y3.heap.size = gk2 at *;have l0 := zqa f0
    have l9 := zqa f9;have lk1 := zqa fk1;have lk2 := zqa fk2;have hst := zqdz 32 y;have cX := fun (W : World) (hb : Below y4.heap.size y4 W) => zqpq oa ob n c m d f t P lf W ((HK.out.later hG).later hb) (by omega) (by omega) HL.out.1 HL.out.2;have cY := fun (W : World) (hb : Below y4.heap.size y4 W) => zqo1 pa pb n c1 m d1 f t P lf W ((HR.out.2.later hB3).later hb) (by omega) (by omega) HL.out.1 HL.out.2;have hcl := zqev n lf;have hcn : cpN n m (zqaq n lf) <= 1000 := by unfold cpN; split <;> omega
    generalize cpZ n m P (zqaq n lf) = Zc at *;generalize cpN n m (zqaq n lf) = q at *;clear hcl;generalize max R 0 = R0 at *;generalize decide (0 <= R) = R1 at *;refine zqej (fun k => k == 21 || k == 24) (fun k => match k with | 21 => fun u => KSl q u | 24 => fun u => KSl q u | _ => fun _ => True) (fun k => match k with | 21 => fun u w => KAt q Zc u w | 24 => fun u w => KAt q Zc u w | _ => fun _ _ => True) (fun k => match k with | 21 => .slice none q 0 | 24 => .slice none q 0 | _ => undef) (fun i hi => ?_) zqc zqc ?_
    ·simp only [Bool.or_eq_true, beq_iff_eq] at hi
     rcases hi with rfl | rfl
     ·exact ⟨none, 0, rfl⟩
     ·exact ⟨none, 0, rfl⟩
    iterate 21 (first | refine zqv rfl ?_ | (refine zqo rfl ?_; apply Exists.intro))
    refine zqo rfl ⟨undef, ?_⟩
    iterate 2 (first | refine zqv rfl ?_ | (refine zqo rfl ?_; apply Exists.intro))
    refine zqo rfl ⟨undef, ?_⟩
    iterate 3 (first | refine zqv rfl ?_ | (refine zqo rfl ?_; apply Exists.intro))
    refine zqbw ?_
    intro γ gv hsv hinj hbase;obtain ⟨o5, c5, e5⟩ := hsv 21 rfl;obtain ⟨o6, c6, e6⟩ := hsv 24 rfl
    (repeat (first | (refine zqy rfl ?_; ((first | go_big_quiet_skip | (go_big_quiet_want; go_big_quiet_op; go_big_quiet_on)); refine wpQuiet_nil ?_)) | ((first | refine zql rfl (fun _ => rfl) ?_ | (apply zq9; (focus rfl); (focus rfl); (focus rfl); (focus (intro W hC hF; (have hbW : Below y4.heap.size y4 W := by obtain ⟨mm, rfl⟩ := hC; exact zqk y4 mm); go_big_quiet_want; go_big_quiet_op; (first | go_big_quiet_on | (apply Exists.intro; refine ⟨fun _ => ?_, ?_⟩; (focus ((fail))); go_big_quiet_on)); exact wpQuiet_nil rfl)); (focus (first | exact fun _ => ⟨rfl, rfl⟩ | exact fun h => absurd h (by decide))))); ((first | go_big_quiet_skip | (go_big_quiet_want; go_big_quiet_op; go_big_quiet_on)); refine wpQuiet_nil ?_)) | refine zqm rfl (fun _ => rfl) ?_))
    refine zqan #[.agg (stC (.slice oa n c) f (.slice ob m d) t), .int .i64 lf] (enters_of Tryz.func26 zqc rfl) rfl e5 rfl rfl rfl rfl (zqbp (zqbj _ _ _)) (by first | kernel_rfl | simp [go_sem]) ?_ ?_
    ·intro W hC hF
     obtain ⟨mm, rfl⟩ := hC;refine (cX _ (zqk y4 mm)).mono ?_
     rintro e w9 ⟨o9, c9, rfl, hk9, hb9⟩;exact ⟨_, rfl, ⟨_, _, rfl⟩, (fun oa2 c2 e2 => by cases e2; exact hk9), hb9⟩
    ((first | go_big_quiet_skip | (go_big_quiet_want; go_big_quiet_op; go_big_quiet_on)); refine wpQuiet_nil ?_)
    (repeat (first | (refine zqy rfl ?_; ((first | go_big_quiet_skip | (go_big_quiet_want; go_big_quiet_op; go_big_quiet_on)); refine wpQuiet_nil ?_)) | ((first | refine zql rfl (fun _ => rfl) ?_ | (apply zq9; (focus rfl); (focus rfl); (focus rfl); (focus (intro W hC hF; (have hbW : Below y4.heap.size y4 W := by obtain ⟨mm, rfl⟩ := hC; exact zqk y4 mm); go_big_quiet_want; go_big_quiet_op; (first | go_big_quiet_on | (apply Exists.intro; refine ⟨fun _ => ?_, ?_⟩; (focus ((fail))); go_big_quiet_on)); exact wpQuiet_nil rfl)); (focus (first | exact fun _ => ⟨rfl, rfl⟩ | exact fun h => absurd h (by decide))))); ((first | go_big_quiet_skip | (go_big_quiet_want; go_big_quiet_op; go_big_quiet_on)); refine wpQuiet_nil ?_)) | refine zqm rfl (fun _ => rfl) ?_))
    refine zqan #[.agg (stC (.slice pa n c1) f (.slice pb m d1) t), .int .i64 lf] (enters_of Tryz.func27 zqc rfl) rfl e6 rfl rfl rfl rfl (zqff (zqbj _ _ _) (zqbj _ _ _) rfl rfl (zqbp (zqbj _ _ _))) (by first | kernel_rfl | simp [go_sem]) ?_ ?_
    ·intro W hC hF
     obtain ⟨mm, rfl⟩ := hC;refine (cY _ (zqk y4 mm)).mono ?_
     rintro e w9 ⟨o9, c9, rfl, hk9, hb9⟩;exact ⟨_, rfl, ⟨_, _, rfl⟩, (fun oa2 c2 e2 => by cases e2; exact hk9), hb9⟩
    ((first | go_big_quiet_skip | (go_big_quiet_want; go_big_quiet_op; go_big_quiet_on)); refine wpQuiet_nil ?_)
    (repeat (first | (refine zqy rfl ?_; ((first | go_big_quiet_skip | (go_big_quiet_want; go_big_quiet_op; go_big_quiet_on)); refine wpQuiet_nil ?_)) | ((first | refine zql rfl (fun _ => rfl) ?_ | (apply zq9; (focus rfl); (focus rfl); (focus rfl); (focus (intro W hC hF; (have hbW : Below y4.heap.size y4 W := by obtain ⟨mm, rfl⟩ := hC; exact zqk y4 mm); (try (have hP0 : KAt q Zc (.slice o6 q c6) W := known hF (List.mem_cons_self ..) (by decide +kernel))); (try (have hP1 : KAt q Zc (.slice o5 q c5) W := known hF (List.mem_cons_of_mem _ (List.mem_cons_self ..)) (by decide +kernel))); go_big_quiet_want; go_big_quiet_op; (first | go_big_quiet_on | (apply Exists.intro; refine ⟨fun _ => ?_, ?_⟩; (focus ((exact Calls.of_more (zqj2 o5 o6 q c5 c6 Zc _ hcn ((hP1 _ _ rfl).later (zqk W _)) ((hP0 _ _ rfl).later (zqk W _)))))); go_big_quiet_on)); exact wpQuiet_nil rfl)); (focus (first | exact fun _ => ⟨rfl, rfl⟩ | exact fun h => absurd h (by decide))))); ((first | go_big_quiet_skip | (go_big_quiet_want; go_big_quiet_op; go_big_quiet_on)); refine wpQuiet_nil ?_)) | refine zqm rfl (fun _ => rfl) ?_))
    (refine zqb7 ?_; rintro _ ⟨mq, rfl⟩ hF; simp only [List.forall_mem_cons] at hF; obtain ⟨-, -⟩ := hF)
    replace hG := Grew.more hG mq;go_wp2;go_ret;exact ⟨rfl, hG⟩
   ·obtain ⟨k, rfl⟩ : ∃ k, i = k + 1 := ⟨i - 1, by omega⟩
    have hlt : k < n := by omega
    have hkk : ((k + 1 : Nat) : Int) - 1 = (k : Int) := by omega
    rw [hkk];have hi1 : (k : Int) < (n : Int) := by omega
    have hi0 : (0 : Int) <= (k : Int) := by omega
    obtain ⟨ad, rfl, -⟩ := HP.out.blk (by omega);have l1 := (HP.out.later hG).name hlt
    by_cases he : N k = z
    ·have e1 := hid1 (zqoz hlt he)
     have hbe : (N k == z) = true := by simp [he]
     generalize fsI N z (k + 1) (n - (k + 1)) = Q1 at *;rw [he] at l1;clear hbe he hkk;go_wp2
     go_roundw
     case rel => first | exact ⟨k, by omega, by go_num, by rw [e1.out, Int.max_eq_left hi0], by rw [e1.out, decide_eq_true hi0], by first | trivial | rfl⟩ | ((repeat' apply Exists.intro) <;> first | exact ⟨⟨k, by omega, by go_num, by rw [e1.out, Int.max_eq_left hi0], by rw [e1.out, decide_eq_true hi0], by first | trivial | rfl⟩, rfl⟩ | exact undef)
     case measure => (simp [intOf] <;> omega)
    ·have e1 := hid1 (zqkw hlt he)
     have hbe : (N k == z) = false := by simp [he]
     generalize fsI N z (k + 1) (n - (k + 1)) = Q1 at *;generalize N k = x at *;clear hkk;go_wp2
     go_roundw
     case rel => first | exact ⟨k, by omega, by go_num, by rw [e1.out], by rw [e1.out], by first | trivial | rfl⟩ | ((repeat' apply Exists.intro) <;> first | exact ⟨⟨k, by omega, by go_num, by rw [e1.out], by rw [e1.out], by first | trivial | rfl⟩, rfl⟩ | exact undef)
     case measure => (simp [intOf] <;> omega)
 by_cases hm1 : (100 : Int) < (m : Int)
 ·go_wp2
  go_ret;exact ⟨rfl, hG⟩
 by_cases hd : 2 <= n /\ m = 2 * n - 2 /\ ¬ Twice N n
 ·obtain ⟨hn2, hme2, hdd⟩ := hd
  have hch := zq9x hn2 (by omega) hme2 hdd;have cW := fun (W : World) (hb : Below w.heap.size w W) => zqns oa ob n c m d f t N I P W (HP.out.later hb) HN.out HI.out (HK.out.later hb) GP.out gf gt hn2 (by omega) hme2 hdd;have cB := fun (W : World) (hb : Below w.heap.size w W) => zqqe oa ob n c m d f t N I P W (HP.out.later hb) HN.out HI.out (HK.out.later hb) GP.out gf hn2 (by omega) hme2 hdd;have cC := fun (W : World) (hb : Below w.heap.size w W) => zqfu oa ob n c m d f t N I W (by omega) (by omega) (HP.out.later hb) HN.out;rw [hch] at cC;replace hme2 := hid1 hme2;replace hdd := hid1 hdd;replace hch := hid1 hch;have cO := zqpd oa ob n c m d f t N I P w1 (by omega) (by omega) (HP.out.later hG) (HK.out.later hG);go_wp2_with fail;refine cO.mono ?_
  rintro e w2 ⟨v, rfl, ⟨pa, pb, c1, d1, rfl, hs1, hk1⟩, hb⟩;have HR : Hid (SeAt (w2.alloc (.cells (stC (.slice pa n c1) f (.slice pb m d1) t) 53)) pa n N I /\ K32At (w2.alloc (.cells (stC (.slice pa n c1) f (.slice pb m d1) t) 53)) pb m P) := ⟨hs1.later (Grew.alloc (Grew.refl _) _), hk1.later (Grew.alloc (Grew.refl _) _)⟩
  replace f0 := zqi (.cells (stC (.slice pa n c1) f (.slice pb m d1) t) 53) (zqb hb f0);replace f6 := zqi (.cells (stC (.slice pa n c1) f (.slice pb m d1) t) 53) (zqb hb f6);have f9 : zqd (w2.alloc (.cells (stC (.slice pa n c1) f (.slice pb m d1) t) 53)) w2.heap.size = some (.cells (stC (.slice pa n c1) f (.slice pb m d1) t) 53) := zqf _ _ _ rfl;replace hG := Grew.alloc (Grew.trans hG hb) (.cells (stC (.slice pa n c1) f (.slice pb m d1) t) 53);clear hb cO hs1 hk1 l0 l6;go_wp2_with fail;generalize w2.alloc (.cells (stC (.slice pa n c1) f (.slice pb m d1) t) 53) = w3 at *;generalize w2.heap.size = g9 at *;have l0 := zqa f0;have l6 := zqa f6;have l9 := zqa f9;have hB3 : Below w3.heap.size w3 w3 := Grew.refl _
  have cRW := fun (W : World) (hb : Below w3.heap.size w3 W) => zquk pa pb n c1 m d1 f t N I P W (HR.out.1.later hb) HN.out HI.out (HR.out.2.later hb) (by omega) (by omega) hch.out;have cRB := fun (W : World) (hb : Below w3.heap.size w3 W) => zqll pa pb n c1 m d1 f t N I P W (HR.out.1.later hb) HN.out HI.out (HR.out.2.later hb) (by omega) (by omega);have cE0 := fun (W : World) (hb : Below w.heap.size w W) => zqs8 (E := 0) .nilIface (HE.out.later hb) (.inl ⟨rfl, rfl⟩);generalize sB n N I f m P t = Z at *;generalize catS (sF n N I f m P t) (3 + 2 * n + 2) = ZB at *;refine (cW _ hG).mono ?_
  rintro e x0 ⟨rfl, hb⟩;replace f0 := zqb hb f0;replace f6 := zqb hb f6;replace f9 := zqb hb f9;replace hG := Grew.trans hG hb;replace hB3 := Grew.trans hB3 hb;clear hb l0 l6 l9;have l0 := zqa f0;have l6 := zqa f6;have l9 := zqa f9;go_wp2_with fail;refine (cRW _ hB3).mono ?_
  rintro e x1 ⟨rfl, hb⟩;replace f0 := zqb hb f0;replace f6 := zqb hb f6;replace f9 := zqb hb f9;replace hG := Grew.trans hG hb;replace hB3 := Grew.trans hB3 hb;clear hb l0 l6 l9;have l0 := zqa f0;have l6 := zqa f6;have l9 := zqa f9;go_wp2_with fail;refine (cB _ hG).mono ?_
  rintro e x2 ⟨rfl, hb⟩;replace f0 := zqb hb f0;replace f6 := zqb hb f6;replace f9 := zqb hb f9;replace hG := Grew.trans hG hb;replace hB3 := Grew.trans hB3 hb;clear hb l0 l6 l9;have l0 := zqa f0;have l6 := zqa f6;have l9 := zqa f9;go_wp2_with fail;refine (cE0 _ hG).mono ?_
  rintro e x3 ⟨rfl, hb⟩;replace f0 := zqb hb f0;replace f6 := zqb hb f6;replace f9 := zqb hb f9;replace hG := Grew.trans hG hb;replace hB3 := Grew.trans hB3 hb;clear hb l0 l6 l9;have l0 := zqa f0;have l6 := zqa f6;have l9 := zqa f9;go_wp2_with fail;refine (cC _ hG).mono ?_
  rintro e x4 ⟨u, rfl, hu, hb⟩;replace f0 := zqb hb f0;replace f6 := zqb hb f6;replace f9 := zqb hb f9;replace hG := Grew.trans hG hb;replace hB3 := Grew.trans hB3 hb;clear hb l0 l6 l9;have l0 := zqa f0;have l6 := zqa f6;have l9 := zqa f9
  rcases hu with ⟨-, rfl⟩ | ⟨h9, -⟩
  case inr => exact absurd rfl h9
  go_wp2_with fail;refine (cE0 _ hG).mono ?_
  rintro e x5 ⟨rfl, hb⟩;replace f0 := zqb hb f0;replace f6 := zqb hb f6;replace f9 := zqb hb f9;replace hG := Grew.trans hG hb;replace hB3 := Grew.trans hB3 hb;clear hb l0 l6 l9;have l0 := zqa f0;have l6 := zqa f6;have l9 := zqa f9;go_wp2_with fail;refine (cE0 _ hG).mono ?_
  rintro e x6 ⟨rfl, hb⟩;replace f0 := zqb hb f0;replace f6 := zqb hb f6;replace f9 := zqb hb f9;replace hG := Grew.trans hG hb;replace hB3 := Grew.trans hB3 hb;clear hb l0 l6 l9;have l0 := zqa f0;have l6 := zqa f6;have l9 := zqa f9;go_wp2_with fail;refine (cRB _ hB3).mono ?_
  rintro e x7 ⟨rfl, hb⟩;replace f0 := zqb hb f0;replace f6 := zqb hb f6;replace f9 := zqb hb f9;replace hG := Grew.trans hG hb;replace hB3 := Grew.trans hB3 hb;clear hb l0 l6 l9;have l0 := zqa f0;have l6 := zqa f6;have l9 := zqa f9;clear cW cRW cB cC cE0 cRB;have hF := zqr3 N z n 0;have cS := fun (W : World) (hb : Below w.heap.size w W) => zqmk oa ob n c m d f t N I z W (by omega) (HP.out.later hb);have cU := fun (W : World) (hb : Below w.heap.size w W) => zqk1 oa ob n c m d f t P a b W (HK.out.later hb) (by omega) (by omega) HA.out.1 HA.out.2;have cV := fun (W : World) (hb : Below w3.heap.size w3 W) => zqk6 pa pb n c1 m d1 f t P a b W (HR.out.2.later hb) (by omega) (by omega) HA.out.1 HA.out.2;obtain ⟨R, hR⟩ : ∃ R, fsI N z 0 n = R := ⟨_, rfl⟩
  rw [hR] at cS;generalize puK n m P a b = y at *;generalize puB n m a b = B at *;clear hF;replace hR := hid1 hR;go_wp2_with fail;refine (cS _ hG).mono ?_
  rintro e y0 ⟨rfl, hb⟩;replace f0 := zqb hb f0;replace f6 := zqb hb f6;replace f9 := zqb hb f9;replace hG := Grew.trans hG hb;replace hB3 := Grew.trans hB3 hb;clear hb l0 l6 l9;have l0 := zqa f0;have l6 := zqa f6;have l9 := zqa f9;clear cS;go_wp2_with fail
  go_loopw [18, 19, 20] (fun at9 is9 k wr => ∃ i : Nat, i <= n /\ k = .int .i64 ((i : Int) - 1) /\ at9 = .int .i64 (max (fsI N z i (n - i)) 0) /\ is9 = .bool (decide (0 <= fsI N z i (n - i))) /\ wr = y0) (fun _ _ k _ => (intOf k + 1).toNat)
  case atStart => exact ⟨n, Nat.le_refl _, by go_num, by rw [zqht]; rfl, by rw [zqht]; rfl, rfl⟩
  case round =>
   obtain ⟨i, hi, rfl, rfl, rfl, rfl⟩ := hrel
   by_cases h0 : i = 0
   ·subst h0
    rw [show n - 0 = n from rfl, hR.out];go_wp2_with fail;refine (cU _ hG).mono ?_
    rintro e y1 ⟨rfl, hb⟩;replace f0 := zqb hb f0;replace f6 := zqb hb f6;replace f9 := zqb hb f9;replace hG := Grew.trans hG hb;replace hB3 := Grew.trans hB3 hb;clear hb l0 l6 l9;have l0 := zqa f0;have l6 := zqa f6;have l9 := zqa f9;have fk1 : zqd (y1.alloc (.cells (ints .u8 32 y) 44)) y1.heap.size = some (.cells (ints .u8 32 y) 44) := zqf _ _ _ rfl;replace f0 := zqi (.cells (ints .u8 32 y) 44) f0;replace f6 := zqi (.cells (ints .u8 32 y) 44) f6;replace f9 := zqi (.cells (ints .u8 32 y) 44) f9;replace hG := Grew.alloc hG (.cells (ints .u8 32 y) 44);replace hB3 := Grew.alloc hB3 (.cells (ints .u8 32 y) 44);go_wp2_with fail;clear l0 l6 l9;generalize y1.alloc (.cells (ints .u8 32 y) 44) = y2 at *;generalize y1.heap.size = gk1 at *;refine (cV _ hB3).mono ?_
    rintro e y3 ⟨rfl, hb⟩;replace f0 := zqb hb f0;replace f6 := zqb hb f6;replace f9 := zqb hb f9;replace hG := Grew.trans hG hb;replace hB3 := Grew.trans hB3 hb;replace fk1 := zqb hb fk1;clear hb;have l0 := zqa f0;have l6 := zqa f6;have l9 := zqa f9;have fk2 : zqd (y3.alloc (.cells (ints .u8 32 y) 43)) y3.heap.size = some (.cells (ints .u8 32 y) 43) := zqf _ _ _ rfl;replace f0 := zqi (.cells (ints .u8 32 y) 43) f0;replace f9 := zqi (.cells (ints .u8 32 y) 43) f9;replace fk1 := zqi (.cells (ints .u8 32 y) 43) fk1;replace hG := Grew.alloc hG (.cells (ints .u8 32 y) 43);replace hB3 := Grew.alloc hB3 (.cells (ints .u8 32 y) 43);go_wp2_with fail;clear l0 l6 l9 cU cV f6;generalize y3.alloc (.cells (ints .u8 32 y) 43) = y4 at *;generalize y3.heap.size = gk2 at *;have l0 := zqa f0
    have l9 := zqa f9;have lk1 := zqa fk1;have lk2 := zqa fk2;have hst := zqdz 32 y;have cX := fun (W : World) (hb : Below y4.heap.size y4 W) => zqpq oa ob n c m d f t P lf W ((HK.out.later hG).later hb) (by omega) (by omega) HL.out.1 HL.out.2;have cY := fun (W : World) (hb : Below y4.heap.size y4 W) => zqo1 pa pb n c1 m d1 f t P lf W ((HR.out.2.later hB3).later hb) (by omega) (by omega) HL.out.1 HL.out.2;have hcl := zqev n lf;have hcn : cpN n m (zqaq n lf) <= 1000 := by unfold cpN; split <;> omega
    generalize cpZ n m P (zqaq n lf) = Zc at *;generalize cpN n m (zqaq n lf) = q at *;clear hcl;generalize max R 0 = R0 at *;generalize decide (0 <= R) = R1 at *;refine zqej (fun k => k == 21 || k == 24) (fun k => match k with | 21 => fun u => KSl q u | 24 => fun u => KSl q u | _ => fun _ => True) (fun k => match k with | 21 => fun u w => KAt q Zc u w | 24 => fun u w => KAt q Zc u w | _ => fun _ _ => True) (fun k => match k with | 21 => .slice none q 0 | 24 => .slice none q 0 | _ => undef) (fun i hi => ?_) zqc zqc ?_
    ·simp only [Bool.or_eq_true, beq_iff_eq] at hi
     rcases hi with rfl | rfl
     ·exact ⟨none, 0, rfl⟩
     ·exact ⟨none, 0, rfl⟩
    iterate 21 (first | refine zqv rfl ?_ | (refine zqo rfl ?_; apply Exists.intro))
    refine zqo rfl ⟨undef, ?_⟩
    iterate 2 (first | refine zqv rfl ?_ | (refine zqo rfl ?_; apply Exists.intro))
    refine zqo rfl ⟨undef, ?_⟩
    iterate 3 (first | refine zqv rfl ?_ | (refine zqo rfl ?_; apply Exists.intro))
    refine zqbw ?_
    intro γ gv hsv hinj hbase;obtain ⟨o5, c5, e5⟩ := hsv 21 rfl;obtain ⟨o6, c6, e6⟩ := hsv 24 rfl
    (repeat (first | (refine zqy rfl ?_; ((first | go_big_quiet_skip | (go_big_quiet_want; go_big_quiet_op; go_big_quiet_on)); refine wpQuiet_nil ?_)) | ((first | refine zql rfl (fun _ => rfl) ?_ | (apply zq9; (focus rfl); (focus rfl); (focus rfl); (focus (intro W hC hF; (have hbW : Below y4.heap.size y4 W := by obtain ⟨mm, rfl⟩ := hC; exact zqk y4 mm); go_big_quiet_want; go_big_quiet_op; (first | go_big_quiet_on | (apply Exists.intro; refine ⟨fun _ => ?_, ?_⟩; (focus ((fail))); go_big_quiet_on)); exact wpQuiet_nil rfl)); (focus (first | exact fun _ => ⟨rfl, rfl⟩ | exact fun h => absurd h (by decide))))); ((first | go_big_quiet_skip | (go_big_quiet_want; go_big_quiet_op; go_big_quiet_on)); refine wpQuiet_nil ?_)) | refine zqm rfl (fun _ => rfl) ?_))
    refine zqan #[.agg (stC (.slice oa n c) f (.slice ob m d) t), .int .i64 lf] (enters_of Tryz.func26 zqc rfl) rfl e5 rfl rfl rfl rfl (zqbp (zqbj _ _ _)) (by first | kernel_rfl | simp [go_sem]) ?_ ?_
    ·intro W hC hF
     obtain ⟨mm, rfl⟩ := hC;refine (cX _ (zqk y4 mm)).mono ?_
     rintro e w9 ⟨o9, c9, rfl, hk9, hb9⟩;exact ⟨_, rfl, ⟨_, _, rfl⟩, (fun oa2 c2 e2 => by cases e2; exact hk9), hb9⟩
    ((first | go_big_quiet_skip | (go_big_quiet_want; go_big_quiet_op; go_big_quiet_on)); refine wpQuiet_nil ?_)
    (repeat (first | (refine zqy rfl ?_; ((first | go_big_quiet_skip | (go_big_quiet_want; go_big_quiet_op; go_big_quiet_on)); refine wpQuiet_nil ?_)) | ((first | refine zql rfl (fun _ => rfl) ?_ | (apply zq9; (focus rfl); (focus rfl); (focus rfl); (focus (intro W hC hF; (have hbW : Below y4.heap.size y4 W := by obtain ⟨mm, rfl⟩ := hC; exact zqk y4 mm); go_big_quiet_want; go_big_quiet_op; (first | go_big_quiet_on | (apply Exists.intro; refine ⟨fun _ => ?_, ?_⟩; (focus ((fail))); go_big_quiet_on)); exact wpQuiet_nil rfl)); (focus (first | exact fun _ => ⟨rfl, rfl⟩ | exact fun h => absurd h (by decide))))); ((first | go_big_quiet_skip | (go_big_quiet_want; go_big_quiet_op; go_big_quiet_on)); refine wpQuiet_nil ?_)) | refine zqm rfl (fun _ => rfl) ?_))
    refine zqan #[.agg (stC (.slice pa n c1) f (.slice pb m d1) t), .int .i64 lf] (enters_of Tryz.func27 zqc rfl) rfl e6 rfl rfl rfl rfl (zqff (zqbj _ _ _) (zqbj _ _ _) rfl rfl (zqbp (zqbj _ _ _))) (by first | kernel_rfl | simp [go_sem]) ?_ ?_
    ·intro W hC hF
     obtain ⟨mm, rfl⟩ := hC;refine (cY _ (zqk y4 mm)).mono ?_
     rintro e w9 ⟨o9, c9, rfl, hk9, hb9⟩;exact ⟨_, rfl, ⟨_, _, rfl⟩, (fun oa2 c2 e2 => by cases e2; exact hk9), hb9⟩
    ((first | go_big_quiet_skip | (go_big_quiet_want; go_big_quiet_op; go_big_quiet_on)); refine wpQuiet_nil ?_)
    (repeat (first | (refine zqy rfl ?_; ((first | go_big_quiet_skip | (go_big_quiet_want; go_big_quiet_op; go_big_quiet_on)); refine wpQuiet_nil ?_)) | ((first | refine zql rfl (fun _ => rfl) ?_ | (apply zq9; (focus rfl); (focus rfl); (focus rfl); (focus (intro W hC hF; (have hbW : Below y4.heap.size y4 W := by obtain ⟨mm, rfl⟩ := hC; exact zqk y4 mm); (try (have hP0 : KAt q Zc (.slice o6 q c6) W := known hF (List.mem_cons_self ..) (by decide +kernel))); (try (have hP1 : KAt q Zc (.slice o5 q c5) W := known hF (List.mem_cons_of_mem _ (List.mem_cons_self ..)) (by decide +kernel))); go_big_quiet_want; go_big_quiet_op; (first | go_big_quiet_on | (apply Exists.intro; refine ⟨fun _ => ?_, ?_⟩; (focus ((exact Calls.of_more (zqj2 o5 o6 q c5 c6 Zc _ hcn ((hP1 _ _ rfl).later (zqk W _)) ((hP0 _ _ rfl).later (zqk W _)))))); go_big_quiet_on)); exact wpQuiet_nil rfl)); (focus (first | exact fun _ => ⟨rfl, rfl⟩ | exact fun h => absurd h (by decide))))); ((first | go_big_quiet_skip | (go_big_quiet_want; go_big_quiet_op; go_big_quiet_on)); refine wpQuiet_nil ?_)) | refine zqm rfl (fun _ => rfl) ?_))
    (refine zqb7 ?_; rintro _ ⟨mq, rfl⟩ hF; simp only [List.forall_mem_cons] at hF; obtain ⟨-, -⟩ := hF)
    replace hG := Grew.more hG mq;go_wp2;go_ret;exact ⟨rfl, hG⟩
   ·obtain ⟨k, rfl⟩ : ∃ k, i = k + 1 := ⟨i - 1, by omega⟩
    have hlt : k < n := by omega
    have hkk : ((k + 1 : Nat) : Int) - 1 = (k : Int) := by omega
    rw [hkk];have hi1 : (k : Int) < (n : Int) := by omega
    have hi0 : (0 : Int) <= (k : Int) := by omega
    obtain ⟨ad, rfl, -⟩ := HP.out.blk (by omega);have l1 := (HP.out.later hG).name hlt
    by_cases he : N k = z
    ·have e1 := hid1 (zqoz hlt he)
     have hbe : (N k == z) = true := by simp [he]
     generalize fsI N z (k + 1) (n - (k + 1)) = Q1 at *;rw [he] at l1;clear hbe he hkk;go_wp2
     go_roundw
     case rel => first | exact ⟨k, by omega, by go_num, by rw [e1.out, Int.max_eq_left hi0], by rw [e1.out, decide_eq_true hi0], by first | trivial | rfl⟩ | ((repeat' apply Exists.intro) <;> first | exact ⟨⟨k, by omega, by go_num, by rw [e1.out, Int.max_eq_left hi0], by rw [e1.out, decide_eq_true hi0], by first | trivial | rfl⟩, rfl⟩ | exact undef)
     case measure => (simp [intOf] <;> omega)
    ·have e1 := hid1 (zqkw hlt he)
     have hbe : (N k == z) = false := by simp [he]
     generalize fsI N z (k + 1) (n - (k + 1)) = Q1 at *;generalize N k = x at *;clear hkk;go_wp2
     go_roundw
     case rel => first | exact ⟨k, by omega, by go_num, by rw [e1.out], by rw [e1.out], by first | trivial | rfl⟩ | ((repeat' apply Exists.intro) <;> first | exact ⟨⟨k, by omega, by go_num, by rw [e1.out], by rw [e1.out], by first | trivial | rfl⟩, rfl⟩ | exact undef)
     case measure => (simp [intOf] <;> omega)
 ·have hch := zrhc hd (by omega)
  have cW := fun (W : World) (hb : Below w.heap.size w W) => zqn7 oa ob n c m d f t N I W (HP.out.later hb) HN.out (by omega) (by omega) hch;have cB := fun (W : World) (hb : Below w.heap.size w W) => zqmb oa ob n c m d f t N I W (HP.out.later hb) HN.out (by omega) (by omega) hch;have cC := fun (W : World) (hb : Below w.heap.size w W) => zqfu oa ob n c m d f t N I W (by omega) (by omega) (HP.out.later hb) HN.out;replace hch := hid1 hch;have cO := zqpd oa ob n c m d f t N I P w1 (by omega) (by omega) (HP.out.later hG) (HK.out.later hG);go_wp2_with fail;refine cO.mono ?_
  rintro e w2 ⟨v, rfl, ⟨pa, pb, c1, d1, rfl, hs1, hk1⟩, hb⟩;have HR : Hid (SeAt (w2.alloc (.cells (stC (.slice pa n c1) f (.slice pb m d1) t) 53)) pa n N I /\ K32At (w2.alloc (.cells (stC (.slice pa n c1) f (.slice pb m d1) t) 53)) pb m P) := ⟨hs1.later (Grew.alloc (Grew.refl _) _), hk1.later (Grew.alloc (Grew.refl _) _)⟩
  replace f0 := zqi (.cells (stC (.slice pa n c1) f (.slice pb m d1) t) 53) (zqb hb f0);replace f6 := zqi (.cells (stC (.slice pa n c1) f (.slice pb m d1) t) 53) (zqb hb f6);have f9 : zqd (w2.alloc (.cells (stC (.slice pa n c1) f (.slice pb m d1) t) 53)) w2.heap.size = some (.cells (stC (.slice pa n c1) f (.slice pb m d1) t) 53) := zqf _ _ _ rfl;replace hG := Grew.alloc (Grew.trans hG hb) (.cells (stC (.slice pa n c1) f (.slice pb m d1) t) 53);clear hb cO hs1 hk1 l0 l6;go_wp2_with fail;generalize w2.alloc (.cells (stC (.slice pa n c1) f (.slice pb m d1) t) 53) = w3 at *;generalize w2.heap.size = g9 at *;have l0 := zqa f0;have l6 := zqa f6;have l9 := zqa f9;have hB3 : Below w3.heap.size w3 w3 := Grew.refl _
  have cRW := fun (W : World) (hb : Below w3.heap.size w3 W) => zqkl pa pb n c1 m d1 f t N I P W (HR.out.1.later hb) HN.out HI.out (HR.out.2.later hb) (by omega) (by omega) hch.out;have cE := fun (u : Value) (W W2 : World) (E : Int) (hu : ErV W u E) (hb : Below w.heap.size w W2) (h2 : Below W.heap.size W W2) => zqs8 (E := E) u (HE.out.later hb) (hu.later h2);replace hch := hch.out;generalize chkE n N m = X9 at *;have hx0 : (X9 == 0) = false := by simp [hch]
  have hx1 : ¬ (X9 = 0) := hch;refine (cW _ hG).mono ?_
  rintro e x0 ⟨u, rfl, hu, hb⟩;replace f0 := zqb hb f0;replace f6 := zqb hb f6;replace f9 := zqb hb f9;replace hG := Grew.trans hG hb;replace hB3 := Grew.trans hB3 hb;clear hb l0 l6 l9;have l0 := zqa f0;have l6 := zqa f6;have l9 := zqa f9;obtain ⟨tw, xw, rfl⟩ := zqfx hu hch;have huw := hid1 hu;have hbw : Below x0.heap.size x0 x0 := Grew.refl _;clear hu;go_wp2_with fail;refine (cRW _ hB3).mono ?_
  rintro e x1 ⟨rfl, hb⟩;replace f0 := zqb hb f0;replace f6 := zqb hb f6;replace f9 := zqb hb f9;replace hG := Grew.trans hG hb;replace hB3 := Grew.trans hB3 hb;replace hbw := Grew.trans hbw hb;clear hb l0 l6 l9;have l0 := zqa f0;have l6 := zqa f6;have l9 := zqa f9;go_wp2_with fail;refine (cB _ hG).mono ?_
  rintro e x2 ⟨u, rfl, hu, hb⟩;replace f0 := zqb hb f0;replace f6 := zqb hb f6;replace f9 := zqb hb f9;replace hG := Grew.trans hG hb;replace hB3 := Grew.trans hB3 hb;replace hbw := Grew.trans hbw hb;clear hb l0 l6 l9;have l0 := zqa f0;have l6 := zqa f6;have l9 := zqa f9;obtain ⟨tb, xb, rfl⟩ := zqfx hu hch;have hub := hid1 hu;have hbb : Below x2.heap.size x2 x2 := Grew.refl _;clear hu;go_wp2_with fail;refine (cE _ _ _ _ huw.out hG hbw).mono ?_
  rintro e x3 ⟨rfl, hb⟩;replace f0 := zqb hb f0;replace f6 := zqb hb f6;replace f9 := zqb hb f9;replace hG := Grew.trans hG hb;replace hB3 := Grew.trans hB3 hb;replace hbb := Grew.trans hbb hb;replace hbw := Grew.trans hbw hb;clear hb l0 l6 l9;have l0 := zqa f0;have l6 := zqa f6;have l9 := zqa f9;go_wp2_with fail;refine (cC _ hG).mono ?_
  rintro e x4 ⟨u, rfl, hu, hb⟩;replace f0 := zqb hb f0;replace f6 := zqb hb f6;replace f9 := zqb hb f9;replace hG := Grew.trans hG hb;replace hB3 := Grew.trans hB3 hb;replace hbb := Grew.trans hbb hb;replace hbw := Grew.trans hbw hb;clear hb l0 l6 l9;have l0 := zqa f0;have l6 := zqa f6;have l9 := zqa f9;obtain ⟨tk, xk, rfl⟩ := zqfx hu hch;have huk := hid1 hu;have hbk : Below x4.heap.size x4 x4 := Grew.refl _;clear hu;go_wp2_with fail;refine (cE _ _ _ _ huk.out hG hbk).mono ?_
  rintro e x5 ⟨rfl, hb⟩;replace f0 := zqb hb f0;replace f6 := zqb hb f6;replace f9 := zqb hb f9;replace hG := Grew.trans hG hb;replace hB3 := Grew.trans hB3 hb;replace hbk := Grew.trans hbk hb;replace hbb := Grew.trans hbb hb;replace hbw := Grew.trans hbw hb;clear hb l0 l6 l9;have l0 := zqa f0;have l6 := zqa f6;have l9 := zqa f9;go_wp2_with fail;refine (cE _ _ _ _ hub.out hG hbb).mono ?_
  rintro e x6 ⟨rfl, hb⟩;replace f0 := zqb hb f0;replace f6 := zqb hb f6;replace f9 := zqb hb f9;replace hG := Grew.trans hG hb;replace hB3 := Grew.trans hB3 hb;replace hbk := Grew.trans hbk hb;replace hbb := Grew.trans hbb hb;replace hbw := Grew.trans hbw hb;clear hb l0 l6 l9;have l0 := zqa f0;have l6 := zqa f6;have l9 := zqa f9;clear cW cRW cB cC cE;have hF := zqr3 N z n 0;have cS := fun (W : World) (hb : Below w.heap.size w W) => zqmk oa ob n c m d f t N I z W (by omega) (HP.out.later hb);have cU := fun (W : World) (hb : Below w.heap.size w W) => zqk1 oa ob n c m d f t P a b W (HK.out.later hb) (by omega) (by omega) HA.out.1 HA.out.2;have cV := fun (W : World) (hb : Below w3.heap.size w3 W) => zqk6 pa pb n c1 m d1 f t P a b W (HR.out.2.later hb) (by omega) (by omega) HA.out.1 HA.out.2
  obtain ⟨R, hR⟩ : ∃ R, fsI N z 0 n = R := ⟨_, rfl⟩
  rw [hR] at cS;generalize puK n m P a b = y at *;generalize puB n m a b = B at *;clear hF;replace hR := hid1 hR;go_wp2_with fail;refine (cS _ hG).mono ?_
  rintro e y0 ⟨rfl, hb⟩;replace f0 := zqb hb f0;replace f6 := zqb hb f6;replace f9 := zqb hb f9;replace hG := Grew.trans hG hb;replace hB3 := Grew.trans hB3 hb;clear hb l0 l6 l9;have l0 := zqa f0;have l6 := zqa f6;have l9 := zqa f9;clear cS;go_wp2_with fail
  go_loopw [18, 19, 20] (fun at9 is9 k wr => ∃ i : Nat, i <= n /\ k = .int .i64 ((i : Int) - 1) /\ at9 = .int .i64 (max (fsI N z i (n - i)) 0) /\ is9 = .bool (decide (0 <= fsI N z i (n - i))) /\ wr = y0) (fun _ _ k _ => (intOf k + 1).toNat)
  case atStart => exact ⟨n, Nat.le_refl _, by go_num, by rw [zqht]; rfl, by rw [zqht]; rfl, rfl⟩
  case round =>
   obtain ⟨i, hi, rfl, rfl, rfl, rfl⟩ := hrel
   by_cases h0 : i = 0
   ·subst h0
    rw [show n - 0 = n from rfl, hR.out];go_wp2_with fail;refine (cU _ hG).mono ?_
    rintro e y1 ⟨rfl, hb⟩;replace f0 := zqb hb f0;replace f6 := zqb hb f6;replace f9 := zqb hb f9;replace hG := Grew.trans hG hb;replace hB3 := Grew.trans hB3 hb;clear hb l0 l6 l9;have l0 := zqa f0;have l6 := zqa f6;have l9 := zqa f9;have fk1 : zqd (y1.alloc (.cells (ints .u8 32 y) 44)) y1.heap.size = some (.cells (ints .u8 32 y) 44) := zqf _ _ _ rfl;replace f0 := zqi (.cells (ints .u8 32 y) 44) f0;replace f6 := zqi (.cells (ints .u8 32 y) 44) f6;replace f9 := zqi (.cells (ints .u8 32 y) 44) f9;replace hG := Grew.alloc hG (.cells (ints .u8 32 y) 44);replace hB3 := Grew.alloc hB3 (.cells (ints .u8 32 y) 44);go_wp2_with fail;clear l0 l6 l9;generalize y1.alloc (.cells (ints .u8 32 y) 44) = y2 at *;generalize y1.heap.size = gk1 at *;refine (cV _ hB3).mono ?_
    rintro e y3 ⟨rfl, hb⟩;replace f0 := zqb hb f0;replace f6 := zqb hb f6;replace f9 := zqb hb f9;replace hG := Grew.trans hG hb;replace hB3 := Grew.trans hB3 hb;replace fk1 := zqb hb fk1;clear hb;have l0 := zqa f0;have l6 := zqa f6;have l9 := zqa f9;have fk2 : zqd (y3.alloc (.cells (ints .u8 32 y) 43)) y3.heap.size = some (.cells (ints .u8 32 y) 43) := zqf _ _ _ rfl;replace f0 := zqi (.cells (ints .u8 32 y) 43) f0;replace f9 := zqi (.cells (ints .u8 32 y) 43) f9;replace fk1 := zqi (.cells (ints .u8 32 y) 43) fk1;replace hG := Grew.alloc hG (.cells (ints .u8 32 y) 43);replace hB3 := Grew.alloc hB3 (.cells (ints .u8 32 y) 43);go_wp2_with fail;clear l0 l6 l9 cU cV f6;generalize y3.alloc (.cells (ints .u8 32 y) 43) = y4 at *;generalize y3.heap.size = gk2 at *;have l0 := zqa f0
    have l9 := zqa f9;have lk1 := zqa fk1;have lk2 := zqa fk2;have hst := zqdz 32 y;have cX := fun (W : World) (hb : Below y4.heap.size y4 W) => zqpq oa ob n c m d f t P lf W ((HK.out.later hG).later hb) (by omega) (by omega) HL.out.1 HL.out.2;have cY := fun (W : World) (hb : Below y4.heap.size y4 W) => zqo1 pa pb n c1 m d1 f t P lf W ((HR.out.2.later hB3).later hb) (by omega) (by omega) HL.out.1 HL.out.2;have hcl := zqev n lf;have hcn : cpN n m (zqaq n lf) <= 1000 := by unfold cpN; split <;> omega
    generalize cpZ n m P (zqaq n lf) = Zc at *;generalize cpN n m (zqaq n lf) = q at *;clear hcl;generalize max R 0 = R0 at *;generalize decide (0 <= R) = R1 at *;refine zqej (fun k => k == 21 || k == 24) (fun k => match k with | 21 => fun u => KSl q u | 24 => fun u => KSl q u | _ => fun _ => True) (fun k => match k with | 21 => fun u w => KAt q Zc u w | 24 => fun u w => KAt q Zc u w | _ => fun _ _ => True) (fun k => match k with | 21 => .slice none q 0 | 24 => .slice none q 0 | _ => undef) (fun i hi => ?_) zqc zqc ?_
    ·simp only [Bool.or_eq_true, beq_iff_eq] at hi
     rcases hi with rfl | rfl
     ·exact ⟨none, 0, rfl⟩
     ·exact ⟨none, 0, rfl⟩
    iterate 21 (first | refine zqv rfl ?_ | (refine zqo rfl ?_; apply Exists.intro))
    refine zqo rfl ⟨undef, ?_⟩
    iterate 2 (first | refine zqv rfl ?_ | (refine zqo rfl ?_; apply Exists.intro))
    refine zqo rfl ⟨undef, ?_⟩
    iterate 3 (first | refine zqv rfl ?_ | (refine zqo rfl ?_; apply Exists.intro))
    refine zqbw ?_
    intro γ gv hsv hinj hbase;obtain ⟨o5, c5, e5⟩ := hsv 21 rfl;obtain ⟨o6, c6, e6⟩ := hsv 24 rfl
    (repeat (first | (refine zqy rfl ?_; ((first | go_big_quiet_skip | (go_big_quiet_want; go_big_quiet_op; go_big_quiet_on)); refine wpQuiet_nil ?_)) | ((first | refine zql rfl (fun _ => rfl) ?_ | (apply zq9; (focus rfl); (focus rfl); (focus rfl); (focus (intro W hC hF; (have hbW : Below y4.heap.size y4 W := by obtain ⟨mm, rfl⟩ := hC; exact zqk y4 mm); go_big_quiet_want; go_big_quiet_op; (first | go_big_quiet_on | (apply Exists.intro; refine ⟨fun _ => ?_, ?_⟩; (focus ((fail))); go_big_quiet_on)); exact wpQuiet_nil rfl)); (focus (first | exact fun _ => ⟨rfl, rfl⟩ | exact fun h => absurd h (by decide))))); ((first | go_big_quiet_skip | (go_big_quiet_want; go_big_quiet_op; go_big_quiet_on)); refine wpQuiet_nil ?_)) | refine zqm rfl (fun _ => rfl) ?_))
    refine zqan #[.agg (stC (.slice oa n c) f (.slice ob m d) t), .int .i64 lf] (enters_of Tryz.func26 zqc rfl) rfl e5 rfl rfl rfl rfl (zqbp (zqbj _ _ _)) (by first | kernel_rfl | simp [go_sem]) ?_ ?_
    ·intro W hC hF
     obtain ⟨mm, rfl⟩ := hC;refine (cX _ (zqk y4 mm)).mono ?_
     rintro e w9 ⟨o9, c9, rfl, hk9, hb9⟩;exact ⟨_, rfl, ⟨_, _, rfl⟩, (fun oa2 c2 e2 => by cases e2; exact hk9), hb9⟩
    ((first | go_big_quiet_skip | (go_big_quiet_want; go_big_quiet_op; go_big_quiet_on)); refine wpQuiet_nil ?_)
    (repeat (first | (refine zqy rfl ?_; ((first | go_big_quiet_skip | (go_big_quiet_want; go_big_quiet_op; go_big_quiet_on)); refine wpQuiet_nil ?_)) | ((first | refine zql rfl (fun _ => rfl) ?_ | (apply zq9; (focus rfl); (focus rfl); (focus rfl); (focus (intro W hC hF; (have hbW : Below y4.heap.size y4 W := by obtain ⟨mm, rfl⟩ := hC; exact zqk y4 mm); go_big_quiet_want; go_big_quiet_op; (first | go_big_quiet_on | (apply Exists.intro; refine ⟨fun _ => ?_, ?_⟩; (focus ((fail))); go_big_quiet_on)); exact wpQuiet_nil rfl)); (focus (first | exact fun _ => ⟨rfl, rfl⟩ | exact fun h => absurd h (by decide))))); ((first | go_big_quiet_skip | (go_big_quiet_want; go_big_quiet_op; go_big_quiet_on)); refine wpQuiet_nil ?_)) | refine zqm rfl (fun _ => rfl) ?_))
    refine zqan #[.agg (stC (.slice pa n c1) f (.slice pb m d1) t), .int .i64 lf] (enters_of Tryz.func27 zqc rfl) rfl e6 rfl rfl rfl rfl (zqff (zqbj _ _ _) (zqbj _ _ _) rfl rfl (zqbp (zqbj _ _ _))) (by first | kernel_rfl | simp [go_sem]) ?_ ?_
    ·intro W hC hF
     obtain ⟨mm, rfl⟩ := hC;refine (cY _ (zqk y4 mm)).mono ?_
     rintro e w9 ⟨o9, c9, rfl, hk9, hb9⟩;exact ⟨_, rfl, ⟨_, _, rfl⟩, (fun oa2 c2 e2 => by cases e2; exact hk9), hb9⟩
    ((first | go_big_quiet_skip | (go_big_quiet_want; go_big_quiet_op; go_big_quiet_on)); refine wpQuiet_nil ?_)
    (repeat (first | (refine zqy rfl ?_; ((first | go_big_quiet_skip | (go_big_quiet_want; go_big_quiet_op; go_big_quiet_on)); refine wpQuiet_nil ?_)) | ((first | refine zql rfl (fun _ => rfl) ?_ | (apply zq9; (focus rfl); (focus rfl); (focus rfl); (focus (intro W hC hF; (have hbW : Below y4.heap.size y4 W := by obtain ⟨mm, rfl⟩ := hC; exact zqk y4 mm); (try (have hP0 : KAt q Zc (.slice o6 q c6) W := known hF (List.mem_cons_self ..) (by decide +kernel))); (try (have hP1 : KAt q Zc (.slice o5 q c5) W := known hF (List.mem_cons_of_mem _ (List.mem_cons_self ..)) (by decide +kernel))); go_big_quiet_want; go_big_quiet_op; (first | go_big_quiet_on | (apply Exists.intro; refine ⟨fun _ => ?_, ?_⟩; (focus ((exact Calls.of_more (zqj2 o5 o6 q c5 c6 Zc _ hcn ((hP1 _ _ rfl).later (zqk W _)) ((hP0 _ _ rfl).later (zqk W _)))))); go_big_quiet_on)); exact wpQuiet_nil rfl)); (focus (first | exact fun _ => ⟨rfl, rfl⟩ | exact fun h => absurd h (by decide))))); ((first | go_big_quiet_skip | (go_big_quiet_want; go_big_quiet_op; go_big_quiet_on)); refine wpQuiet_nil ?_)) | refine zqm rfl (fun _ => rfl) ?_))
    (refine zqb7 ?_; rintro _ ⟨mq, rfl⟩ hF; simp only [List.forall_mem_cons] at hF; obtain ⟨-, -⟩ := hF)
    replace hG := Grew.more hG mq;go_wp2;go_ret;exact ⟨rfl, hG⟩
   ·obtain ⟨k, rfl⟩ : ∃ k, i = k + 1 := ⟨i - 1, by omega⟩
    have hlt : k < n := by omega
    have hkk : ((k + 1 : Nat) : Int) - 1 = (k : Int) := by omega
    rw [hkk];have hi1 : (k : Int) < (n : Int) := by omega
    have hi0 : (0 : Int) <= (k : Int) := by omega
    obtain ⟨ad, rfl, -⟩ := HP.out.blk (by omega);have l1 := (HP.out.later hG).name hlt
    by_cases he : N k = z
    ·have e1 := hid1 (zqoz hlt he)
     have hbe : (N k == z) = true := by simp [he]
     generalize fsI N z (k + 1) (n - (k + 1)) = Q1 at *;rw [he] at l1;clear hbe he hkk;go_wp2
     go_roundw
     case rel => first | exact ⟨k, by omega, by go_num, by rw [e1.out, Int.max_eq_left hi0], by rw [e1.out, decide_eq_true hi0], by first | trivial | rfl⟩ | ((repeat' apply Exists.intro) <;> first | exact ⟨⟨k, by omega, by go_num, by rw [e1.out, Int.max_eq_left hi0], by rw [e1.out, decide_eq_true hi0], by first | trivial | rfl⟩, rfl⟩ | exact undef)
     case measure => (simp [intOf] <;> omega)
    ·have e1 := hid1 (zqkw hlt he)
     have hbe : (N k == z) = false := by simp [he]
     generalize fsI N z (k + 1) (n - (k + 1)) = Q1 at *;generalize N k = x at *;clear hkk;go_wp2
     go_roundw
     case rel => first | exact ⟨k, by omega, by go_num, by rw [e1.out], by rw [e1.out], by first | trivial | rfl⟩ | ((repeat' apply Exists.intro) <;> first | exact ⟨⟨k, by omega, by go_num, by rw [e1.out], by rw [e1.out], by first | trivial | rfl⟩, rfl⟩ | exact undef)
     case measure => (simp [intOf] <;> omega)
end Go.Proofs.YtnjghcnhcbobhaaGreatDoor
