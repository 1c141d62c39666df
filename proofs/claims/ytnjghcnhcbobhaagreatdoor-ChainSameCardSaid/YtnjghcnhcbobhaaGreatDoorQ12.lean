/- Q12 -/
import Derived.Test.YtnjghcnhcbobhaaGreatDoorL12
import Derived.Test.YtnjghcnhcbobhaaGreatDoorQ9
set_option linter.unusedVariables false
set_option linter.unusedSimpArgs false
set_option maxRecDepth 100000
set_option maxHeartbeats 4000000
namespace Go.Proofs.YtnjghcnhcbobhaaGreatDoor
open Go.RowKit
theorem zqh2 {w : World} {base m n size : Nat} {e : TypeId} {v : Value} {xs : List Value} {cs : Array Value} (h : w.ownsRow base e size v n xs) (hm : m < base) : (w.setRow m cs).ownsRow base e size v n xs := by
 rcases h with ⟨h1, h2 | ⟨g, cap, cur, hv, hg, ho, rest⟩⟩
 ·exact ⟨h1, .inl h2⟩
 ·exact ⟨h1, .inr ⟨g, cap, cur, hv, hg, zqm _ _ (show zqd w g = _ from ho) (by omega), rest⟩⟩
theorem zqnj (W : World) (base : Nat) (v : Value) (n : Nat) (F : Nat -> Nat -> Int) (g2 : Nat) (t2 : TypeId) (fr : Nat × Nat) (own : W.ownsRow base 44 32 v n (k32L F n)) (hn : n <= 1048576)
  (hg2 : zqd W g2 = some (.cells (ints .u8 32 (F n)) t2 fr)) (hbW : base <= W.heap.size) :
  ∃ g cap w', (zqw #[45, 45] 45 #[v, .slice (some ⟨g2, 0, none⟩) 1 1]).run Tryz.prog W = .ok (.value (.slice (some ⟨g, 0, none⟩) (n + 1) cap)) w' /\ w'.ownsRow base 44 32 (.slice (some ⟨g, 0, none⟩) (n + 1) cap) (n + 1) (k32L F (n + 1)) /\ W.grownBy w' v.ownBlock := by
 obtain ⟨i, z, hi, hz, hs, hby, hzs⟩ : ∃ i z, Tryz.prog.info? 44 = some i /\ i.zero = some z /\ i.size = 32 /\ i.bytes = 32 /\ z.cells.size = 32 := ⟨(Tryz.prog.info? 44).get zqb, ((Tryz.prog.info? 44).get zqb).zero.get zqb, by kernel_rfl, by kernel_rfl, by kernel_rfl, by kernel_rfl, by kernel_rfl⟩
 obtain ⟨g, cap, w', hr, ho, hg, _, _⟩ := run_append_lies (P := Tryz.prog) W 45 45 base 44 i z 32 32 Tryz.underlying45 hi hz hs hby hzs (by decide) v n (k32L F n) own ⟨g2, 0, none⟩ 1 1 (ints .u8 32 (F n)).toList (by rw [Array.length_toList, zqj])
  (fun j x hx => by
   rw [<- zqe4 g2 j];unfold zqd at hg2;rw [cell_of_row W g2 j _ _ _ hg2];rw [Array.getElem?_toList] at hx;exact hx) (fun x hx => by
   have h1 := zqaz .u8 32 (F n);rw [Array.all_eq_true'] at h1;exact h1 x (by simpa using hx)) (by decide) (by unfold maxLen; omega) (by omega) hbW W.heap.size rfl
 refine ⟨g, cap, w', by unfold zqw; simp only [Sem.run_bind, hr, Result.andThen_ok, Sem.run_pure], ?_, hg⟩;rw [zqg3];exact ho
theorem zq3r (w : World) (base n : Nat) (hn : n <= 1048576) (hb : base <= w.heap.size) : ∃ w', (Instr.makeSlice 45 (.int .i64 0) (.int .i64 (n : Int))).run Tryz.prog w = .ok (.slice (some ⟨w.heap.size, 0, none⟩) 0 n) w' /\ w'.ownsRow base 44 32 (.slice (some ⟨w.heap.size, 0, none⟩) 0 n) 0 [] /\ w.grownBy w' none := by
 obtain ⟨i, z, hi, hz, hs, hby, hzs⟩ : ∃ i z, Tryz.prog.info? 44 = some i /\ i.zero = some z /\ i.size = 32 /\ i.bytes = 32 /\ z.cells.size = 32 := ⟨(Tryz.prog.info? 44).get zqb, ((Tryz.prog.info? 44).get zqb).zero.get zqb, by kernel_rfl, by kernel_rfl, by kernel_rfl, by kernel_rfl, by kernel_rfl⟩
 exact run_make_own (P := Tryz.prog) w base 45 44 i z 32 Tryz.underlying45 hi hz hs .i64 .i64 n (by rw [hby]; omega) (by unfold maxLen; omega) hb
theorem zqtq (k : Nat -> Int) (P : Nat -> Nat -> Int) (j : Nat) : zqb8 k P (j + 1) = upF (zqb8 k P j) (P j) := rfl
theorem zqjw {k : Nat -> Int} {P : Nat -> Nat -> Int} {j : Nat} (h : zqbt k P j = true) : zqbt k P (j + 1) = upOK (zqb8 k P j) (P j) := by
 simp only [zqbt, h, Bool.true_and]
attribute [local irreducible] zqds zqbw oneF macF shaF strOf keyV shV pubV upF upOK
theorem zq02 (k : Nat -> Int) (w : World) (hk : Bytes 32 k) :
  Calls Tryz.prog 187 #[.agg (ints .u8 32 k)] w (Rt w (.agg (ints .u8 64 (zqbl k (keyV (pubV k)))))) := by
 have c1 := fun W : World => zqqm k W hk;generalize keyV (pubV k) = Z at *;clear hk;have hG := Grew.refl w;have fk : True := trivial;have fr : True := trivial
 go_enter Tryz.func187, Tryz.ntmps187
 go_wp2_with fail;generalize hW : (w.alloc (.cells (ints .u8 32 (k)) 44)).alloc (.cells (ints .u8 64 (zqbl (zqe) (zqe))) 276) = w1;replace fk : zqd w1 (w.heap.size) = some (.cells (ints .u8 32 (k)) 44) := zqs hW;replace fr : zqd w1 (w.heap.size + 1) = some (.cells (ints .u8 64 (zqbl (zqe) (zqe))) 276) := zqs hW;replace hG : Below w.heap.size w w1 := zqak hW;clear hW;have lfk := zqa fk;have lfr := zqa fr;go_wp2_with fail
 ((first | (with_reducible refine zqa2 4 zqb zqb zqb zqb zqb ?_) | refine zqar 4 zqb zqb zqb zqb zqb ?_); simp only [List.take_succ_cons, List.take_zero]; (repeat (first | go_big_quiet_skip | (go_big_quiet_want; go_big_quiet_op; first | go_big_quiet_on | (apply Exists.intro; refine ⟨fun _ => ?_, ?_⟩; (focus (first | (with_reducible exact Calls.of_more (c1 _)))); go_big_quiet_on)))); refine wpQuiet_nil ?_; rintro _ ⟨mq, rfl⟩)
 (refine zqu (i := 4) (fuel := 0) zqb rfl ?_; intro K hK; go_simp; refine hK _ _ ?_; clear hK K)
 (refine wpAny_done zqb ?_ _)
 go_wp2;refine zqaf rfl _ 276 _ (0, 0) _ rfl (zqq _ (zqr _ fr)) Tryz.underlying276 rfl (by rw [zqj]; kernel_rfl) rfl ⟨rfl, by exact zqf⟩
theorem ofC : OfC := fun k W hk => zq02 k W hk
theorem zq1t (x z : Nat -> Int) (w : World) (hx : Bytes 32 x) (hz : Bytes 32 z) :
  Calls Tryz.prog 220 #[.agg (ints .u8 64 (zqbl x z))] w (Rt w (.bool (same 32 z (keyV (pubV x))))) := by
 have c1 := fun W : World => zqqm x W hx;have c2 := fun W : World => zqlh z (keyV (pubV x)) W hz (zqdl _);generalize keyV (pubV x) = Z at *;clear hx hz;have hG := Grew.refl w;have fp : True := trivial
 go_enter Tryz.func220, Tryz.ntmps220
 go_wp2_with fail;generalize hW : w.alloc (.cells (ints .u8 64 (zqbl (x) (z))) 276) = w1;replace fp : zqd w1 (w.heap.size) = some (.cells (ints .u8 64 (zqbl (x) (z))) 276) := zqs hW;replace hG : Below w.heap.size w w1 := zqak hW;clear hW;have lfp := zqa fp;go_wp2_with fail
 ((first | (with_reducible refine zq8 zqb zqb ?_) | refine zqz zqb zqb ?_); (repeat (first | go_big_quiet_skip | (go_big_quiet_want; go_big_quiet_op; first | go_big_quiet_on | (apply Exists.intro; refine ⟨fun _ => ?_, ?_⟩; (focus (first | (with_reducible exact Calls.of_more (c1 _)) | (with_reducible exact Calls.of_more (c2 _)))); go_big_quiet_on)))); refine wpQuiet_nil ?_; rintro _ ⟨mq, rfl⟩)
 have hG2 := Grew.more hG mq;generalize more w1 mq = w2 at *;go_wp2;go_ret;exact ⟨rfl, hG2⟩
theorem zrkb : zrag := fun x z W hx hz => zq1t x z W hx hz
theorem zq3g (k p : Nat -> Int) (w : World) (hk : Bytes 32 k) (hp : Bytes 32 p) (hT : Tabs w) :
  Calls Tryz.prog 201 #[.agg (ints .u8 32 k), .agg (ints .u8 32 p)] w (Rt w (.tuple #[.agg (ints .u8 32 (upF k p)), .bool (upOK k p)])) := by
 have hTT : Hid (Tabs w) := hT;clear hT;have c1 := fun W : World => zqzn k p W hk hp rfl;have c2 := fun (W : World) (h : Tabs W) => zqsj (keyV (shV k p)) W h;unfold upOK upF;generalize keyV (shV k p) = Z at *;clear hk hp
 by_cases hz : shV k p = 0
 ·rw [if_pos hz]
  rw [decide_eq_true hz] at c1 ⊢;clear hz c2;generalize shV k p = V at *;have hG := Grew.refl w;have fk : True := trivial;have fp : True := trivial;have fr : True := trivial
  go_enter Tryz.func201, Tryz.ntmps201
  go_wp2_with fail;generalize hW : ((w.alloc (.cells (ints .u8 32 (k)) 44)).alloc (.cells (ints .u8 32 (p)) 44)).alloc (.cells (ints .u8 32 (zqe)) 44) = w1;replace fk : zqd w1 (w.heap.size) = some (.cells (ints .u8 32 (k)) 44) := zqs hW;replace fp : zqd w1 (w.heap.size + 1) = some (.cells (ints .u8 32 (p)) 44) := zqs hW;replace fr : zqd w1 (w.heap.size + 1 + 1) = some (.cells (ints .u8 32 (zqe)) 44) := zqs hW;replace hG : Below w.heap.size w w1 := zqak hW;clear hW;have lfk := zqa fk;have lfp := zqa fp;have lfr := zqa fr;go_wp2_with fail
  (refine (c1 _).mono ?_; rintro e w2 ⟨rfl, hb⟩; replace fk : zqd w2 (w.heap.size) = some (.cells (ints .u8 32 (k)) 44) := zqc hb (by exact zqh); have lfk := zqa fk; replace fp : zqd w2 (w.heap.size + 1) = some (.cells (ints .u8 32 (p)) 44) := zqc hb (by exact zqh); have lfp := zqa fp; replace fr : zqd w2 (w.heap.size + 1 + 1) = some (.cells (ints .u8 32 (zqe)) 44) := zqc hb (by exact zqh); have lfr := zqa fr; replace hG : Below w.heap.size w w2 := Grew.trans (by exact zqf) hb; clear hb)
  go_wp2;refine zqcf rfl _ 44 (ints .u8 32 zqe) (0, 0) _ _ rfl rfl (by exact zqh) Tryz.underlying44 rfl (by rw [zqj]; kernel_rfl) rfl ⟨rfl, by exact zqf⟩
 ·rw [if_neg hz]
  rw [decide_eq_false hz] at c1 ⊢;clear hz;generalize shV k p = V at *;generalize zqds Z = N1 at *;have hG := Grew.refl w;have fk : True := trivial;have fp : True := trivial;have fr : True := trivial
  go_enter Tryz.func201, Tryz.ntmps201
  go_wp2_with fail;generalize hW : ((w.alloc (.cells (ints .u8 32 (k)) 44)).alloc (.cells (ints .u8 32 (p)) 44)).alloc (.cells (ints .u8 32 (zqe)) 44) = w1;replace fk : zqd w1 (w.heap.size) = some (.cells (ints .u8 32 (k)) 44) := zqs hW;replace fp : zqd w1 (w.heap.size + 1) = some (.cells (ints .u8 32 (p)) 44) := zqs hW;replace fr : zqd w1 (w.heap.size + 1 + 1) = some (.cells (ints .u8 32 (zqe)) 44) := zqs hW;replace hG : Below w.heap.size w w1 := zqak hW;clear hW;have lfk := zqa fk;have lfp := zqa fp;have lfr := zqa fr;go_wp2_with fail
  (refine (c1 _).mono ?_; rintro e w2 ⟨rfl, hb⟩; replace fk : zqd w2 (w.heap.size) = some (.cells (ints .u8 32 (k)) 44) := zqc hb (by exact zqh); have lfk := zqa fk; replace fp : zqd w2 (w.heap.size + 1) = some (.cells (ints .u8 32 (p)) 44) := zqc hb (by exact zqh); have lfp := zqa fp; replace fr : zqd w2 (w.heap.size + 1 + 1) = some (.cells (ints .u8 32 (zqe)) 44) := zqc hb (by exact zqh); have lfr := zqa fr; replace hG : Below w.heap.size w w2 := Grew.trans (by exact zqf) hb; clear hb)
  go_wp2_with fail;have fz : zqd (w2.alloc (.cells (ints .u8 32 (Z)) 44)) w2.heap.size = some (.cells (ints .u8 32 (Z)) 44) := zqg _ _ _ rfl;replace fk : zqd (w2.alloc (.cells (ints .u8 32 (Z)) 44)) (w.heap.size) = some (.cells (ints .u8 32 (k)) 44) := zqi _ fk;replace fp : zqd (w2.alloc (.cells (ints .u8 32 (Z)) 44)) (w.heap.size + 1) = some (.cells (ints .u8 32 (p)) 44) := zqi _ fp;replace fr : zqd (w2.alloc (.cells (ints .u8 32 (Z)) 44)) (w.heap.size + 1 + 1) = some (.cells (ints .u8 32 (zqe)) 44) := zqi _ fr;replace hG : Below w.heap.size w (w2.alloc (.cells (ints .u8 32 (Z)) 44)) := Grew.alloc hG _;clear lfk lfp lfr;generalize w2.alloc (.cells (ints .u8 32 (Z)) 44) = w3 at *;generalize w2.heap.size = gz at *;have lfk := zqa fk;have lfp := zqa fp;have lfr := zqa fr;have lfz := zqa fz;go_wp2_with fail
  (refine (c2 _ (hTT.out.later hG)).mono ?_; rintro e w4 ⟨rfl, hb⟩; replace fk : zqd w4 (w.heap.size) = some (.cells (ints .u8 32 (k)) 44) := zqc hb (by exact zqh); have lfk := zqa fk; replace fp : zqd w4 (w.heap.size + 1) = some (.cells (ints .u8 32 (p)) 44) := zqc hb (by exact zqh); have lfp := zqa fp; replace fr : zqd w4 (w.heap.size + 1 + 1) = some (.cells (ints .u8 32 (zqe)) 44) := zqc hb (by exact zqh); have lfr := zqa fr; replace fz : zqd w4 (gz) = some (.cells (ints .u8 32 (Z)) 44) := zqc hb (by exact zqh); have lfz := zqa fz; replace hG : Below w.heap.size w w4 := Grew.trans (by exact zqf) hb; clear hb)
  go_wp2;refine zqcf rfl _ 44 (ints .u8 32 N1) (0, 0) _ _ rfl rfl (by exact zqh) Tryz.underlying44 rfl (by rw [zqj]; kernel_rfl) rfl ⟨rfl, by exact zqf⟩
def KeyRow (w : World) (oa : Option Addr) : Prop := ∀ ad, oa = some ad -> ∃ cur fr, zqd w ad.block = some (.cells cur 44 fr)
theorem KeyRow.later {w w' : World} {oa : Option Addr} (h : KeyRow w oa) (hb : Below w.heap.size w w') : KeyRow w' oa := fun ad e => by
 obtain ⟨cur, fr, h1⟩ := h ad e;exact ⟨cur, fr, zqc hb h1⟩
theorem zqi9 {w : World} {base n : Nat} {v : Value} {xs : List Value} (h : w.ownsRow base 44 32 v n xs) {oa : Option Addr} {m c : Nat} (e : v = .slice oa m c) : KeyRow w oa := fun ad e1 => by
 subst e e1
 rcases h.2 with ⟨h1, _⟩ | ⟨g, cap, cur, h1, _, hg, _⟩
 ·cases h1
 ·cases h1
  exact ⟨cur, _, hg⟩
def SecAt (w : World) (oa : Option Addr) (n : Nat) (F : Nat -> Nat -> Int) : Prop := K32At w oa n F /\ KeyRow w oa
theorem SecAt.later {w w' : World} {oa : Option Addr} {n : Nat} {F : Nat -> Nat -> Int} (h : SecAt w oa n F) (hb : Below w.heap.size w w') : SecAt w' oa n F := ⟨h.1.later hb, h.2.later hb⟩
def zrle (w : World) (n : Nat) (F : Nat -> Nat -> Int) (e : Ending) (w' : World) : Prop := ∃ oa c, e = .returned (.slice oa n c) /\ SecAt w' oa n F /\ Below w.heap.size w w'
def zqjb (w : World) (k : Nat -> Int) (P : Nat -> Nat -> Int) (n : Nat) (e : Ending) (w' : World) : Prop := zqli w k P n e w' /\ ∀ oa m c, e = .returned (.tuple #[.slice oa m c, .bool true]) -> KeyRow w' oa
theorem zqml (k : Nat -> Int) (P : Nat -> Nat -> Int) (oa : Option Addr) (n c : Nat) (w : World) (hk : Bytes 32 k) (hn : n <= 1000) (hP : ∀ i, i < n -> Bytes 32 (P i)) (hK : K32At w oa n P) (hT : Tabs w) :
  Calls Tryz.prog 190 #[.agg (ints .u8 32 k), .slice oa n c] w (zqjb w k P n) := by
 have HK : Hid (K32At w oa n P) := hK;have hTT : Hid (Tabs w) := hT;have hU : Hid (∀ (j : Nat) (W : World), j < n -> Tabs W -> Calls Tryz.prog 201 #[.agg (ints .u8 32 (zqb8 k P j)), .agg (ints .u8 32 (P j))] W (Rt W (.tuple #[.agg (ints .u8 32 (zqb8 k P (j + 1))), .bool (upOK (zqb8 k P j) (P j))]))) := fun j W hj h => by
  rw [zqtq];exact zq3g _ _ W (zqmk k P hk j) (hP j hj) h
 have hN : Hid (∀ j, j <= n -> zqbt k P j = false -> zqbt k P n = false) := fun j hj h => zqr9 k P h n hj;have hY : Hid (∀ j, zqbt k P j = true -> zqbt k P (j + 1) = upOK (zqb8 k P j) (P j)) := fun j h => zqjw h;have hO : Hid (zqbt k P 0 = true) := rfl;have hS0 : Hid (zqb8 k P 0 = k) := rfl;have hRC : Hid (∀ (e : Ending) (w' : World), Below w.heap.size w w' -> ((zqbt k P n = true /\ ∃ oa c, e = .returned (.tuple #[.slice oa (n + 1) c, .bool true]) /\ n + 1 <= c /\ K32At w' oa (n + 1) (zqb8 k P) /\ KeyRow w' oa) \/ (zqbt k P n = false /\ e = .returned (.tuple #[.slice none 0 0, .bool false]))) -> zqjb w k P n e w') := fun e w' h1 h2 => by
  rcases h2 with ⟨a, oa, c, rfl, b, d, f⟩ | ⟨a, rfl⟩
  ·exact ⟨⟨h1, .inl ⟨a, oa, c, rfl, b, d⟩⟩, fun oa' m c' e => by cases e; exact f⟩
  ·exact ⟨⟨h1, .inr ⟨a, rfl⟩⟩, fun oa' m c' e => by simp at e⟩
 generalize zqjb w k P n = RC at *;generalize hOKg : zqbt k P = OKF at *;generalize hSg : zqb8 k P = S at *;clear hOKg hSg hK hk hP hT;have hG := Grew.refl w
 go_enter Tryz.func190, Tryz.ntmps190
 have fk : zqd (w.alloc (.cells (ints .u8 32 (k)) 44)) w.heap.size = some (.cells (ints .u8 32 (k)) 44) := zqg _ _ _ rfl;have hG1 : Below w.heap.size w (w.alloc (.cells (ints .u8 32 (k)) 44)) := Grew.alloc hG _;have hz1 : (w.alloc (.cells (ints .u8 32 (k)) 44)).heap.size = w.heap.size + 1 := by simp
 obtain ⟨w1, hw1⟩ : ∃ w1, Hid (w.alloc (.cells (ints .u8 32 (k)) 44) = w1) := ⟨_, rfl⟩
 rw [hw1.out] at fk hG1 hz1;obtain ⟨w2, hr2, own2, hg2⟩ := zq3r w1 (w.heap.size + 1) (n + 1) (by omega) (by omega);rw [show ((n + 1 : Nat) : Int) = (n : Int) + 1 by omega, hz1] at hr2;rw [hz1] at own2;have fk2 : zqd w2 w.heap.size = some (.cells (ints .u8 32 (k)) 44) := (hg2.block _ (by omega) (by intro e; cases e)).trans fk;have hG2 : Below w.heap.size w w2 := hG1.grown hg2 hG1.size (fun k hk => by cases hk);have hz2 := zqa fk2;have hz3 := hg2.size;obtain ⟨g3, c3, w3, hr3, own3, hg3⟩ := zqnj (w2.alloc (.cells (ints .u8 32 (k)) 44)) (w.heap.size + 1) (.slice (some ⟨w.heap.size + 1, 0, none⟩) 0 (n + 1)) 0 S w2.heap.size _ (0, 0) (World.ownsRow.alloc own2 _) (by omega) (by rw [hS0.out]; exact zqg _ _ _ rfl) (by simp; omega)
 have fk3 : zqd w3 w.heap.size = some (.cells (ints .u8 32 (k)) 44) := (hg3.block _ (by simp; omega) (by intro e; have := (own2.lt _ e.symm).1; omega)).trans (zqi _ fk2);have hG3 : Below w.heap.size w w3 := (Grew.alloc hG2 _).grown hg3 (by simp; omega) (fun k hk => by have := (own2.lt _ hk).1; omega);have OWN0 : Hid (w3.ownsRow (w.heap.size + 1) 44 32 (.slice (some ⟨g3, 0, none⟩) 1 c3) (0 + 1) (k32L S (0 + 1))) := own3;replace hr3 : (zqw #[45, 45] 45 #[.slice (some ⟨w.heap.size + 1, 0, none⟩) 0 (n + 1), .slice (some ⟨w2.heap.size, 0, none⟩) 1 1]).run Tryz.prog (w2.alloc (.cells (ints .u8 32 (k)) 44)) = .ok (.value (.slice (some ⟨g3, 0, none⟩) 1 c3)) w3 := hr3;rw [<- hw1.out] at hr2;clear own2 own3 hg2 hg3 hw1 fk hG1 hz1 hG;go_wp2_with fail;rw [<- hS0.out] at fk3;clear hr2 hr3 fk2 hz2 hz3 hG2 hS0
 go_loopw [21, 6, 8, 9, 10] (fun i v _ _ _ wr => ∃ (j : Nat) (v0 : Value), v0 = v /\ j <= n /\ i = .int .i64 j /\ Below w.heap.size w wr /\ OKF j = true /\ zqd wr w.heap.size = some (.cells (ints .u8 32 (S j)) 44) /\ Hid (wr.ownsRow (w.heap.size + 1) 44 32 v0 (j + 1) (k32L S (j + 1)))) (fun i _ _ _ _ _ => n - (intOf i).toNat)
 case atStart => exact ⟨0, _, rfl, by omega, rfl, hG3, hO.out, fk3, OWN0⟩
 case round =>
  clear OWN0 hG3 fk3;obtain ⟨j, v0, rfl, hj, rfl, hM, hok, fk, OWN⟩ := hrel;have lfk := zqa fk
  by_cases hlt : j < n
  ·obtain ⟨ad, rfl⟩ := HK.out.addr (by omega)
   have l1 := HK.out.loadK hlt hM;have hi1 : (j : Int) < (n : Int) := by omega
   have hi0 : (0 : Int) <= (j : Int) := by omega
   have c1 := fun W => hU.out j W hlt;have hsz := hM.size;have hnx := hY.out j hok;have hfl := hN.out (j + 1) (by omega);generalize upOK (S j) (P j) = b at *;clear hU hN hY hO;go_wp2_with fail;have hM4 : Below w.heap.size w (wr.alloc (.cells (ints .u8 32 (P j)) 44)) := Grew.alloc hM _;have fk4 : zqd (wr.alloc (.cells (ints .u8 32 (P j)) 44)) w.heap.size = some (.cells (ints .u8 32 (S j)) 44) := zqi _ fk;have OWN4 : Hid ((wr.alloc (.cells (ints .u8 32 (P j)) 44)).ownsRow (w.heap.size + 1) 44 32 v0 (j + 1) (k32L S (j + 1))) := World.ownsRow.alloc OWN.out _;clear l1 hM fk OWN lfk;generalize wr.alloc (.cells (ints .u8 32 (P j)) 44) = w4 at *;refine (c1 _ (hTT.out.later hM4)).mono ?_
   rintro e w5 ⟨rfl, hb5⟩;have hM2 : Below w.heap.size w w5 := Grew.trans hM4 hb5;have fk5 := zqc hb5 fk4;have OWN2 : Hid (w5.ownsRow (w.heap.size + 1) 44 32 v0 (j + 1) (k32L S (j + 1))) := zqc2 OWN4.out hb5;clear hb5 fk4 OWN4 hM4 c1;have lfk := zqa fk5;have hsz2 := hM2.size
   cases b
   ·have hfn := hfl hnx
    clear hfl hnx OWN2;go_wp2
    (try go_ret2)
    exact hRC.out _ _ (by exact zqf) (.inr ⟨hfn, rfl⟩)
   ·clear hfl
    have o5 : ∀ k, v0.ownBlock = some k -> w.heap.size + 1 <= k /\ k < w5.heap.size := OWN2.out.lt;obtain ⟨g3, c3, w6, hr3, own3, hg3⟩ := zqnj ((w5.alloc (.cells (ints .u8 32 (S (j + 1))) 44)).alloc (.cells (ints .u8 32 (S (j + 1))) 44)) (w.heap.size + 1) v0 (j + 1) S (w5.heap.size + 1) _ (0, 0) (World.ownsRow.alloc (World.ownsRow.alloc OWN2.out _) _) (by omega) (zqg _ _ _ (by simp)) (by simp; omega);have fk3 : zqd w6 w.heap.size = some (.cells (ints .u8 32 (S j)) 44) := (hg3.block _ (by simp; omega) (by intro e; have := o5 _ e.symm; omega)).trans (zqi _ (zqi _ fk5));have fp3 : zqd w6 w5.heap.size = some (.cells (ints .u8 32 (S (j + 1))) 44) := (hg3.block _ (by simp; omega) (by intro e; have := o5 _ e.symm; omega)).trans (zqi _ (zqg _ _ _ rfl))
    have hb3 : Below w.heap.size w w6 := (Grew.alloc (Grew.alloc hM2 _) _).grown hg3 (by simp; omega) (fun k hk => by have := o5 _ hk; omega);have OWN3 : Hid ((w6.setRow w.heap.size (ints .u8 32 (S (j + 1)))).ownsRow (w.heap.size + 1) 44 32 (.slice (some ⟨g3, 0, none⟩) (j + 1 + 1) c3) (j + 1 + 1) (k32L S (j + 1 + 1))) := zqh2 own3 (by omega);have lfk3 := zqa fk3;have lfp3 := zqa fp3;clear own3 OWN2 hg3 o5;go_wp2
    go_roundw
    case rel => first | exact ⟨j + 1, _, rfl, by omega, by go_num, Grew.setRow hb3 _ _ (Nat.le_refl _), hnx, zqr _ fk3, OWN3⟩ | ((repeat' apply Exists.intro) <;> first | exact ⟨⟨j + 1, _, rfl, by omega, by go_num, Grew.setRow hb3 _ _ (Nat.le_refl _), hnx, zqr _ fk3, OWN3⟩, rfl⟩ | exact undef)
    case measure => (simp [intOf] <;> omega)
  ·obtain rfl : j = n := by omega
   obtain ⟨oa2, c2, rfl, hc2, hK2⟩ := zqj5 OWN.out;have HK2 : Hid (K32At wr oa2 (j + 1) S) := hK2;have Hc2 : Hid (j + 1 <= c2) := hc2;have Hok : Hid (OKF j = true) := hok;have HR2 : Hid (KeyRow wr oa2) := zqi9 OWN.out rfl;clear hK2 OWN hc2 hok;go_wp2
   (try go_ret2)
   exact hRC.out _ _ hM (.inl ⟨Hok.out, oa2, c2, rfl, Hc2.out, HK2.out, HR2.out⟩)
theorem zqxe (k : Nat -> Int) (P : Nat -> Nat -> Int) (oa : Option Addr) (n c : Nat) (w : World) (hk : Bytes 32 k) (hn : n <= 1000) (hP : ∀ i, i < n -> Bytes 32 (P i)) (hK : K32At w oa n P) (hT : Tabs w) :
  Calls Tryz.prog 190 #[.agg (ints .u8 32 k), .slice oa n c] w (zqli w k P n) := (zqml k P oa n c w hk hn hP hK hT).mono fun _ _ h => h.1
theorem zq1x {f : FuncId} {args : Array Value} {W : World} {k : Nat -> Int} {P : Nat -> Nat -> Int} {n : Nat} (h : Calls Tryz.prog f args W (zqjb W k P n)) (ho : zqbt k P n = true) :
  Calls Tryz.prog f args W fun e w' => ∃ oa c, e = .returned (.tuple #[.slice oa (n + 1) c, .bool true]) /\ n + 1 <= c /\ K32At w' oa (n + 1) (zqb8 k P) /\ KeyRow w' oa /\ Below W.heap.size W w' := by
 refine h.mono ?_
 rintro e w' ⟨⟨hb, ⟨_, oa, c, he, hc, hK⟩ | ⟨h2, _⟩⟩, hr⟩
 ·exact ⟨oa, c, he, hc, hK, hr _ _ _ he, hb⟩
 ·rw [ho] at h2; cases h2
theorem zrjp : zrak := fun k P oa n c W hk hn hP hK hT => zqxe k P oa n c W hk hn hP hK hT
end Go.Proofs.YtnjghcnhcbobhaaGreatDoor
