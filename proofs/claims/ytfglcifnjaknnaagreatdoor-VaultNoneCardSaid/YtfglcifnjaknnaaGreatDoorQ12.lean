/- Q12 -/
import Derived.Test.YtfglcifnjaknnaaGreatDoorL12
import Derived.Test.YtfglcifnjaknnaaGreatDoorQ9
set_option linter.unusedVariables false
set_option linter.unusedSimpArgs false
set_option maxRecDepth 100000
set_option maxHeartbeats 4000000
namespace Go.Proofs.YtfglcifnjaknnaaGreatDoor
open Go.RowKit
theorem zqj0 {w : World} {base m n size : Nat} {e : TypeId} {v : Value} {xs : List Value} {cs : Array Value} (h : w.ownsRow base e size v n xs) (hm : m < base) : (w.setRow m cs).ownsRow base e size v n xs := by
 rcases h with ⟨h1, h2 | ⟨g, cap, cur, hv, hg, ho, rest⟩⟩
 ·exact ⟨h1, .inl h2⟩
 ·exact ⟨h1, .inr ⟨g, cap, cur, hv, hg, zqk _ _ (show zqe w g = _ from ho) (by omega), rest⟩⟩
theorem zqlf (W : World) (base : Nat) (v : Value) (n : Nat) (F : Nat -> Nat -> Int) (g2 : Nat) (t2 : TypeId) (fr : Nat × Nat) (own : W.ownsRow base 29 32 v n (k32L F n)) (hn : n <= 1048576)
  (hg2 : zqe W g2 = some (.cells (ints .u8 32 (F n)) t2 fr)) (hbW : base <= W.heap.size) :
  ∃ g cap w', (zqr #[44, 44] 44 #[v, .slice (some ⟨g2, 0, none⟩) 1 1]).run Tryz.prog W = .ok (.value (.slice (some ⟨g, 0, none⟩) (n + 1) cap)) w' /\ w'.ownsRow base 29 32 (.slice (some ⟨g, 0, none⟩) (n + 1) cap) (n + 1) (k32L F (n + 1)) /\ W.grownBy w' v.ownBlock := by
 obtain ⟨i, z, hi, hz, hs, hby, hzs⟩ : ∃ i z, Tryz.prog.info? 29 = some i /\ i.zero = some z /\ i.size = 32 /\ i.bytes = 32 /\ z.cells.size = 32 := ⟨(Tryz.prog.info? 29).get zqb, ((Tryz.prog.info? 29).get zqb).zero.get zqb, by kernel_rfl, by kernel_rfl, by kernel_rfl, by kernel_rfl, by kernel_rfl⟩
 obtain ⟨g, cap, w', hr, ho, hg, _, _⟩ := run_append_lies (P := Tryz.prog) W 44 44 base 29 i z 32 32 Tryz.underlying44 hi hz hs hby hzs (by decide) v n (k32L F n) own ⟨g2, 0, none⟩ 1 1 (ints .u8 32 (F n)).toList (by rw [Array.length_toList, zqi])
  (fun j x hx => by
   rw [<- zqem g2 j];unfold zqe at hg2;rw [cell_of_row W g2 j _ _ _ hg2];rw [Array.getElem?_toList] at hx;exact hx) (fun x hx => by
   have h1 := zqa1 .u8 32 (F n);rw [Array.all_eq_true'] at h1;exact h1 x (by simpa using hx)) (by decide) (by unfold maxLen; omega) (by omega) hbW W.heap.size rfl
 refine ⟨g, cap, w', by unfold zqr; simp only [Sem.run_bind, hr, Result.andThen_ok, Sem.run_pure], ?_, hg⟩;rw [zqgu];exact ho
theorem zq2o (w : World) (base n : Nat) (hn : n <= 1048576) (hb : base <= w.heap.size) : ∃ w', (Instr.makeSlice 44 (.int .i64 0) (.int .i64 (n : Int))).run Tryz.prog w = .ok (.slice (some ⟨w.heap.size, 0, none⟩) 0 n) w' /\ w'.ownsRow base 29 32 (.slice (some ⟨w.heap.size, 0, none⟩) 0 n) 0 [] /\ w.grownBy w' none := by
 obtain ⟨i, z, hi, hz, hs, hby, hzs⟩ : ∃ i z, Tryz.prog.info? 29 = some i /\ i.zero = some z /\ i.size = 32 /\ i.bytes = 32 /\ z.cells.size = 32 := ⟨(Tryz.prog.info? 29).get zqb, ((Tryz.prog.info? 29).get zqb).zero.get zqb, by kernel_rfl, by kernel_rfl, by kernel_rfl, by kernel_rfl, by kernel_rfl⟩
 exact run_make_own (P := Tryz.prog) w base 44 29 i z 32 Tryz.underlying44 hi hz hs .i64 .i64 n (by rw [hby]; omega) (by unfold maxLen; omega) hb
theorem zqrp (k : Nat -> Int) (P : Nat -> Nat -> Int) (j : Nat) : zqb2 k P (j + 1) = upF (zqb2 k P j) (P j) := rfl
theorem zqjt {k : Nat -> Int} {P : Nat -> Nat -> Int} {j : Nat} (h : zqbi k P j = true) : zqbi k P (j + 1) = upOK (zqb2 k P j) (P j) := by
 simp only [zqbi, h, Bool.true_and]
attribute [local irreducible] zqda zqbw oneF macF shaF strOf keyV shV pubV upF upOK
theorem zq29 (k : Nat -> Int) (w : World) (hk : Bytes 32 k) :
  Calls Tryz.prog 211 #[.agg (ints .u8 32 k)] w (Rt w (.agg (ints .u8 64 (zqa6 k (keyV (pubV k)))))) := by
 have c1 := fun W : World => zqn9 k W hk;generalize keyV (pubV k) = Z at *;clear hk;have hG := Grew.refl w;have fk : True := trivial;have fr : True := trivial
 go_enter Tryz.func211, Tryz.ntmps211
 go_wp2_with fail;generalize hW : (w.alloc (.cells (ints .u8 32 (k)) 29)).alloc (.cells (ints .u8 64 (zqa6 (zqd) (zqd))) 306) = w1;replace fk : zqe w1 (w.heap.size) = some (.cells (ints .u8 32 (k)) 29) := zqs hW;replace fr : zqe w1 (w.heap.size + 1) = some (.cells (ints .u8 64 (zqa6 (zqd) (zqd))) 306) := zqs hW;replace hG : Below w.heap.size w w1 := zqam hW;clear hW;have lfk := zqa fk;have lfr := zqa fr;go_wp2_with fail
 ((first | (with_reducible refine zqav 4 zqb zqb zqb zqb zqb ?_) | refine zqan 4 zqb zqb zqb zqb zqb ?_); simp only [List.take_succ_cons, List.take_zero]; (repeat (first | go_big_quiet_skip | (go_big_quiet_want; go_big_quiet_op; first | go_big_quiet_on | (apply Exists.intro; refine ⟨fun _ => ?_, ?_⟩; (focus (first | (with_reducible exact Calls.of_more (c1 _)))); go_big_quiet_on)))); refine wpQuiet_nil ?_; rintro _ ⟨mq, rfl⟩)
 (refine zqt (i := 4) (fuel := 0) zqb rfl ?_; intro K hK; go_simp; refine hK _ _ ?_; clear hK K)
 (refine wpAny_done zqb ?_ _)
 go_wp2;refine zqag rfl _ 306 _ (0, 0) _ rfl (zqp _ (zqq _ fr)) Tryz.underlying306 rfl (by rw [zqi]; kernel_rfl) rfl ⟨rfl, by exact zqf⟩
theorem ofC : OfC := fun k W hk => zq29 k W hk
theorem zq1c (x z : Nat -> Int) (w : World) (hx : Bytes 32 x) (hz : Bytes 32 z) :
  Calls Tryz.prog 240 #[.agg (ints .u8 64 (zqa6 x z))] w (Rt w (.bool (same 32 z (keyV (pubV x))))) := by
 have c1 := fun W : World => zqn9 x W hx;have c2 := fun W : World => zqkw z (keyV (pubV x)) W hz (zqc4 _);generalize keyV (pubV x) = Z at *;clear hx hz;have hG := Grew.refl w;have fp : True := trivial
 go_enter Tryz.func240, Tryz.ntmps240
 go_wp2_with fail;generalize hW : w.alloc (.cells (ints .u8 64 (zqa6 (x) (z))) 306) = w1;replace fp : zqe w1 (w.heap.size) = some (.cells (ints .u8 64 (zqa6 (x) (z))) 306) := zqs hW;replace hG : Below w.heap.size w w1 := zqam hW;clear hW;have lfp := zqa fp;go_wp2_with fail
 ((first | (with_reducible refine zqab zqb zqb ?_) | refine zq2 zqb zqb ?_); (repeat (first | go_big_quiet_skip | (go_big_quiet_want; go_big_quiet_op; first | go_big_quiet_on | (refine zAm ?_)))); refine wpQuiet_nil ?_; rintro _ ⟨mq, rfl⟩)
 have hG2 := Grew.more hG mq;generalize more w1 mq = w2 at *;go_wp2;go_ret;exact ⟨rfl, hG2⟩
theorem zrfo : zq7a := fun x z W hx hz => zq1c x z W hx hz
theorem zq0f (k p : Nat -> Int) (w : World) (hk : Bytes 32 k) (hp : Bytes 32 p) (hT : Tabs w) :
  Calls Tryz.prog 229 #[.agg (ints .u8 32 k), .agg (ints .u8 32 p)] w (Rt w (.tuple #[.agg (ints .u8 32 (upF k p)), .bool (upOK k p)])) := by
 have hTT : Hid (Tabs w) := hT;clear hT;have c1 := fun W : World => zqw5 k p W hk hp rfl;have c2 := fun (W : World) (h : Tabs W) => zqp6 (keyV (shV k p)) W h;unfold upOK upF;generalize keyV (shV k p) = Z at *;clear hk hp
 by_cases hz : shV k p = 0
 ·rw [if_pos hz]
  rw [decide_eq_true hz] at c1 ⊢;clear hz c2;generalize shV k p = V at *;have hG := Grew.refl w;have fk : True := trivial;have fp : True := trivial;have fr : True := trivial
  go_enter Tryz.func229, Tryz.ntmps229
  go_wp2_with fail;generalize hW : ((w.alloc (.cells (ints .u8 32 (k)) 29)).alloc (.cells (ints .u8 32 (p)) 29)).alloc (.cells (ints .u8 32 (zqd)) 29) = w1;replace fk : zqe w1 (w.heap.size) = some (.cells (ints .u8 32 (k)) 29) := zqs hW;replace fp : zqe w1 (w.heap.size + 1) = some (.cells (ints .u8 32 (p)) 29) := zqs hW;replace fr : zqe w1 (w.heap.size + 1 + 1) = some (.cells (ints .u8 32 (zqd)) 29) := zqs hW;replace hG : Below w.heap.size w w1 := zqam hW;clear hW;have lfk := zqa fk;have lfp := zqa fp;have lfr := zqa fr;go_wp2_with fail
  (refine (c1 _).mono ?_; rintro e w2 ⟨rfl, hb⟩; replace fk : zqe w2 (w.heap.size) = some (.cells (ints .u8 32 (k)) 29) := zqc hb (by exact zqh); have lfk := zqa fk; replace fp : zqe w2 (w.heap.size + 1) = some (.cells (ints .u8 32 (p)) 29) := zqc hb (by exact zqh); have lfp := zqa fp; replace fr : zqe w2 (w.heap.size + 1 + 1) = some (.cells (ints .u8 32 (zqd)) 29) := zqc hb (by exact zqh); have lfr := zqa fr; replace hG : Below w.heap.size w w2 := Grew.trans (by exact zqf) hb; clear hb)
  go_wp2;refine zqa2 rfl _ 29 (ints .u8 32 zqd) (0, 0) _ _ rfl rfl (by exact zqh) Tryz.underlying29 rfl (by rw [zqi]; kernel_rfl) rfl ⟨rfl, by exact zqf⟩
 ·rw [if_neg hz]
  rw [decide_eq_false hz] at c1 ⊢;clear hz;generalize shV k p = V at *;generalize zqda Z = N1 at *;have hG := Grew.refl w;have fk : True := trivial;have fp : True := trivial;have fr : True := trivial
  go_enter Tryz.func229, Tryz.ntmps229
  go_wp2_with fail;generalize hW : ((w.alloc (.cells (ints .u8 32 (k)) 29)).alloc (.cells (ints .u8 32 (p)) 29)).alloc (.cells (ints .u8 32 (zqd)) 29) = w1;replace fk : zqe w1 (w.heap.size) = some (.cells (ints .u8 32 (k)) 29) := zqs hW;replace fp : zqe w1 (w.heap.size + 1) = some (.cells (ints .u8 32 (p)) 29) := zqs hW;replace fr : zqe w1 (w.heap.size + 1 + 1) = some (.cells (ints .u8 32 (zqd)) 29) := zqs hW;replace hG : Below w.heap.size w w1 := zqam hW;clear hW;have lfk := zqa fk;have lfp := zqa fp;have lfr := zqa fr;go_wp2_with fail
  (refine (c1 _).mono ?_; rintro e w2 ⟨rfl, hb⟩; replace fk : zqe w2 (w.heap.size) = some (.cells (ints .u8 32 (k)) 29) := zqc hb (by exact zqh); have lfk := zqa fk; replace fp : zqe w2 (w.heap.size + 1) = some (.cells (ints .u8 32 (p)) 29) := zqc hb (by exact zqh); have lfp := zqa fp; replace fr : zqe w2 (w.heap.size + 1 + 1) = some (.cells (ints .u8 32 (zqd)) 29) := zqc hb (by exact zqh); have lfr := zqa fr; replace hG : Below w.heap.size w w2 := Grew.trans (by exact zqf) hb; clear hb)
  go_wp2_with fail;have fz : zqe (w2.alloc (.cells (ints .u8 32 (Z)) 29)) w2.heap.size = some (.cells (ints .u8 32 (Z)) 29) := zqg _ _ _ rfl;replace fk : zqe (w2.alloc (.cells (ints .u8 32 (Z)) 29)) (w.heap.size) = some (.cells (ints .u8 32 (k)) 29) := zqj _ fk;replace fp : zqe (w2.alloc (.cells (ints .u8 32 (Z)) 29)) (w.heap.size + 1) = some (.cells (ints .u8 32 (p)) 29) := zqj _ fp;replace fr : zqe (w2.alloc (.cells (ints .u8 32 (Z)) 29)) (w.heap.size + 1 + 1) = some (.cells (ints .u8 32 (zqd)) 29) := zqj _ fr;replace hG : Below w.heap.size w (w2.alloc (.cells (ints .u8 32 (Z)) 29)) := Grew.alloc hG _;clear lfk lfp lfr;generalize w2.alloc (.cells (ints .u8 32 (Z)) 29) = w3 at *;generalize w2.heap.size = gz at *;have lfk := zqa fk;have lfp := zqa fp;have lfr := zqa fr;have lfz := zqa fz;go_wp2_with fail
  (refine (c2 _ (hTT.out.later hG)).mono ?_; rintro e w4 ⟨rfl, hb⟩; replace fk : zqe w4 (w.heap.size) = some (.cells (ints .u8 32 (k)) 29) := zqc hb (by exact zqh); have lfk := zqa fk; replace fp : zqe w4 (w.heap.size + 1) = some (.cells (ints .u8 32 (p)) 29) := zqc hb (by exact zqh); have lfp := zqa fp; replace fr : zqe w4 (w.heap.size + 1 + 1) = some (.cells (ints .u8 32 (zqd)) 29) := zqc hb (by exact zqh); have lfr := zqa fr; replace fz : zqe w4 (gz) = some (.cells (ints .u8 32 (Z)) 29) := zqc hb (by exact zqh); have lfz := zqa fz; replace hG : Below w.heap.size w w4 := Grew.trans (by exact zqf) hb; clear hb)
  go_wp2;refine zqa2 rfl _ 29 (ints .u8 32 N1) (0, 0) _ _ rfl rfl (by exact zqh) Tryz.underlying29 rfl (by rw [zqi]; kernel_rfl) rfl ⟨rfl, by exact zqf⟩
def KeyRow (w : World) (oa : Option Addr) : Prop := ∀ ad, oa = some ad -> ∃ cur fr, zqe w ad.block = some (.cells cur 29 fr)
theorem KeyRow.later {w w' : World} {oa : Option Addr} (h : KeyRow w oa) (hb : Below w.heap.size w w') : KeyRow w' oa := fun ad e => by
 obtain ⟨cur, fr, h1⟩ := h ad e;exact ⟨cur, fr, zqc hb h1⟩
theorem zqih {w : World} {base n : Nat} {v : Value} {xs : List Value} (h : w.ownsRow base 29 32 v n xs) {oa : Option Addr} {m c : Nat} (e : v = .slice oa m c) : KeyRow w oa := fun ad e1 => by
 subst e e1
 rcases h.2 with ⟨h1, _⟩ | ⟨g, cap, cur, h1, _, hg, _⟩
 ·cases h1
 ·cases h1
  exact ⟨cur, _, hg⟩
def SecAt (w : World) (oa : Option Addr) (n : Nat) (F : Nat -> Nat -> Int) : Prop := K32At w oa n F /\ KeyRow w oa
theorem SecAt.later {w w' : World} {oa : Option Addr} {n : Nat} {F : Nat -> Nat -> Int} (h : SecAt w oa n F) (hb : Below w.heap.size w w') : SecAt w' oa n F := ⟨h.1.later hb, h.2.later hb⟩
def zrf2 (w : World) (n : Nat) (F : Nat -> Nat -> Int) (e : Ending) (w' : World) : Prop := ∃ oa c, e = .returned (.slice oa n c) /\ SecAt w' oa n F /\ Below w.heap.size w w'
def zqic (w : World) (k : Nat -> Int) (P : Nat -> Nat -> Int) (n : Nat) (e : Ending) (w' : World) : Prop := zqkv w k P n e w' /\ ∀ oa m c, e = .returned (.tuple #[.slice oa m c, .bool true]) -> KeyRow w' oa
theorem zqls (k : Nat -> Int) (P : Nat -> Nat -> Int) (oa : Option Addr) (n c : Nat) (w : World) (hk : Bytes 32 k) (hn : n <= 1000) (hP : ∀ i, i < n -> Bytes 32 (P i)) (hK : K32At w oa n P) (hT : Tabs w) :
  Calls Tryz.prog 215 #[.agg (ints .u8 32 k), .slice oa n c] w (zqic w k P n) := by
 have HK : Hid (K32At w oa n P) := hK;have hTT : Hid (Tabs w) := hT;have hU : Hid (∀ (j : Nat) (W : World), j < n -> Tabs W -> Calls Tryz.prog 229 #[.agg (ints .u8 32 (zqb2 k P j)), .agg (ints .u8 32 (P j))] W (Rt W (.tuple #[.agg (ints .u8 32 (zqb2 k P (j + 1))), .bool (upOK (zqb2 k P j) (P j))]))) := fun j W hj h => by
  rw [zqrp];exact zq0f _ _ W (zqk4 k P hk j) (hP j hj) h
 have hN : Hid (∀ j, j <= n -> zqbi k P j = false -> zqbi k P n = false) := fun j hj h => zqql k P h n hj;have hY : Hid (∀ j, zqbi k P j = true -> zqbi k P (j + 1) = upOK (zqb2 k P j) (P j)) := fun j h => zqjt h;have hO : Hid (zqbi k P 0 = true) := rfl;have hS0 : Hid (zqb2 k P 0 = k) := rfl;have hRC : Hid (∀ (e : Ending) (w' : World), Below w.heap.size w w' -> ((zqbi k P n = true /\ ∃ oa c, e = .returned (.tuple #[.slice oa (n + 1) c, .bool true]) /\ n + 1 <= c /\ K32At w' oa (n + 1) (zqb2 k P) /\ KeyRow w' oa) \/ (zqbi k P n = false /\ e = .returned (.tuple #[.slice none 0 0, .bool false]))) -> zqic w k P n e w') := fun e w' h1 h2 => by
  rcases h2 with ⟨a, oa, c, rfl, b, d, f⟩ | ⟨a, rfl⟩
  ·exact ⟨⟨h1, .inl ⟨a, oa, c, rfl, b, d⟩⟩, fun oa' m c' e => by cases e; exact f⟩
  ·exact ⟨⟨h1, .inr ⟨a, rfl⟩⟩, fun oa' m c' e => by simp at e⟩
 generalize zqic w k P n = RC at *;generalize hOKg : zqbi k P = OKF at *;generalize hSg : zqb2 k P = S at *;clear hOKg hSg hK hk hP hT;have hG := Grew.refl w
 go_enter Tryz.func215, Tryz.ntmps215
 have fk : zqe (w.alloc (.cells (ints .u8 32 (k)) 29)) w.heap.size = some (.cells (ints .u8 32 (k)) 29) := zqg _ _ _ rfl;have hG1 : Below w.heap.size w (w.alloc (.cells (ints .u8 32 (k)) 29)) := Grew.alloc hG _;have hz1 : (w.alloc (.cells (ints .u8 32 (k)) 29)).heap.size = w.heap.size + 1 := by simp
 obtain ⟨w1, hw1⟩ : ∃ w1, Hid (w.alloc (.cells (ints .u8 32 (k)) 29) = w1) := ⟨_, rfl⟩
 rw [hw1.out] at fk hG1 hz1;obtain ⟨w2, hr2, own2, hg2⟩ := zq2o w1 (w.heap.size + 1) (n + 1) (by omega) (by omega);rw [show ((n + 1 : Nat) : Int) = (n : Int) + 1 by omega, hz1] at hr2;rw [hz1] at own2;have fk2 : zqe w2 w.heap.size = some (.cells (ints .u8 32 (k)) 29) := (hg2.block _ (by omega) (by intro e; cases e)).trans fk;have hG2 : Below w.heap.size w w2 := hG1.grown hg2 hG1.size (fun k hk => by cases hk);have hz2 := zqa fk2;have hz3 := hg2.size;obtain ⟨g3, c3, w3, hr3, own3, hg3⟩ := zqlf (w2.alloc (.cells (ints .u8 32 (k)) 29)) (w.heap.size + 1) (.slice (some ⟨w.heap.size + 1, 0, none⟩) 0 (n + 1)) 0 S w2.heap.size _ (0, 0) (World.ownsRow.alloc own2 _) (by omega) (by rw [hS0.out]; exact zqg _ _ _ rfl) (by simp; omega)
 have fk3 : zqe w3 w.heap.size = some (.cells (ints .u8 32 (k)) 29) := (hg3.block _ (by simp; omega) (by intro e; have := (own2.lt _ e.symm).1; omega)).trans (zqj _ fk2);have hG3 : Below w.heap.size w w3 := (Grew.alloc hG2 _).grown hg3 (by simp; omega) (fun k hk => by have := (own2.lt _ hk).1; omega);have OWN0 : Hid (w3.ownsRow (w.heap.size + 1) 29 32 (.slice (some ⟨g3, 0, none⟩) 1 c3) (0 + 1) (k32L S (0 + 1))) := own3;replace hr3 : (zqr #[44, 44] 44 #[.slice (some ⟨w.heap.size + 1, 0, none⟩) 0 (n + 1), .slice (some ⟨w2.heap.size, 0, none⟩) 1 1]).run Tryz.prog (w2.alloc (.cells (ints .u8 32 (k)) 29)) = .ok (.value (.slice (some ⟨g3, 0, none⟩) 1 c3)) w3 := hr3;rw [<- hw1.out] at hr2;clear own2 own3 hg2 hg3 hw1 fk hG1 hz1 hG;go_wp2_with fail;rw [<- hS0.out] at fk3;clear hr2 hr3 fk2 hz2 hz3 hG2 hS0
 go_loopw [21, 6, 8, 9, 10] (fun i v _ _ _ wr => ∃ (j : Nat) (v0 : Value), v0 = v /\ j <= n /\ i = .int .i64 j /\ Below w.heap.size w wr /\ OKF j = true /\ zqe wr w.heap.size = some (.cells (ints .u8 32 (S j)) 29) /\ Hid (wr.ownsRow (w.heap.size + 1) 29 32 v0 (j + 1) (k32L S (j + 1)))) (fun i _ _ _ _ _ => n - (intOf i).toNat)
 case atStart => exact ⟨0, _, rfl, by omega, rfl, hG3, hO.out, fk3, OWN0⟩
 case round =>
  clear OWN0 hG3 fk3;obtain ⟨j, v0, rfl, hj, rfl, hM, hok, fk, OWN⟩ := hrel;have lfk := zqa fk
  by_cases hlt : j < n
  ·obtain ⟨ad, rfl⟩ := HK.out.addr (by omega)
   have l1 := HK.out.loadK hlt hM;have hi1 : (j : Int) < (n : Int) := by omega
   have hi0 : (0 : Int) <= (j : Int) := by omega
   have c1 := fun W => hU.out j W hlt;have hsz := hM.size;have hnx := hY.out j hok;have hfl := hN.out (j + 1) (by omega);generalize upOK (S j) (P j) = b at *;clear hU hN hY hO;go_wp2_with fail;have hM4 : Below w.heap.size w (wr.alloc (.cells (ints .u8 32 (P j)) 29)) := Grew.alloc hM _;have fk4 : zqe (wr.alloc (.cells (ints .u8 32 (P j)) 29)) w.heap.size = some (.cells (ints .u8 32 (S j)) 29) := zqj _ fk;have OWN4 : Hid ((wr.alloc (.cells (ints .u8 32 (P j)) 29)).ownsRow (w.heap.size + 1) 29 32 v0 (j + 1) (k32L S (j + 1))) := World.ownsRow.alloc OWN.out _;clear l1 hM fk OWN lfk;generalize wr.alloc (.cells (ints .u8 32 (P j)) 29) = w4 at *;refine (c1 _ (hTT.out.later hM4)).mono ?_
   rintro e w5 ⟨rfl, hb5⟩;have hM2 : Below w.heap.size w w5 := Grew.trans hM4 hb5;have fk5 := zqc hb5 fk4;have OWN2 : Hid (w5.ownsRow (w.heap.size + 1) 29 32 v0 (j + 1) (k32L S (j + 1))) := zqey OWN4.out hb5;clear hb5 fk4 OWN4 hM4 c1;have lfk := zqa fk5;have hsz2 := hM2.size
   cases b
   ·have hfn := hfl hnx
    clear hfl hnx OWN2;go_wp2
    (try go_ret2)
    exact hRC.out _ _ (by exact zqf) (.inr ⟨hfn, rfl⟩)
   ·clear hfl
    have o5 : ∀ k, v0.ownBlock = some k -> w.heap.size + 1 <= k /\ k < w5.heap.size := OWN2.out.lt;obtain ⟨g3, c3, w6, hr3, own3, hg3⟩ := zqlf ((w5.alloc (.cells (ints .u8 32 (S (j + 1))) 29)).alloc (.cells (ints .u8 32 (S (j + 1))) 29)) (w.heap.size + 1) v0 (j + 1) S (w5.heap.size + 1) _ (0, 0) (World.ownsRow.alloc (World.ownsRow.alloc OWN2.out _) _) (by omega) (zqg _ _ _ (by simp)) (by simp; omega);have fk3 : zqe w6 w.heap.size = some (.cells (ints .u8 32 (S j)) 29) := (hg3.block _ (by simp; omega) (by intro e; have := o5 _ e.symm; omega)).trans (zqj _ (zqj _ fk5));have fp3 : zqe w6 w5.heap.size = some (.cells (ints .u8 32 (S (j + 1))) 29) := (hg3.block _ (by simp; omega) (by intro e; have := o5 _ e.symm; omega)).trans (zqj _ (zqg _ _ _ rfl))
    have hb3 : Below w.heap.size w w6 := (Grew.alloc (Grew.alloc hM2 _) _).grown hg3 (by simp; omega) (fun k hk => by have := o5 _ hk; omega);have OWN3 : Hid ((w6.setRow w.heap.size (ints .u8 32 (S (j + 1)))).ownsRow (w.heap.size + 1) 29 32 (.slice (some ⟨g3, 0, none⟩) (j + 1 + 1) c3) (j + 1 + 1) (k32L S (j + 1 + 1))) := zqj0 own3 (by omega);have lfk3 := zqa fk3;have lfp3 := zqa fp3;clear own3 OWN2 hg3 o5;go_wp2
    go_roundw
    case rel => first | exact ⟨j + 1, _, rfl, by omega, by go_num, Grew.setRow hb3 _ _ (Nat.le_refl _), hnx, zqq _ fk3, OWN3⟩ | ((repeat' apply Exists.intro) <;> first | exact ⟨⟨j + 1, _, rfl, by omega, by go_num, Grew.setRow hb3 _ _ (Nat.le_refl _), hnx, zqq _ fk3, OWN3⟩, rfl⟩ | exact undef)
    case measure => (simp [intOf] <;> omega)
  ·obtain rfl : j = n := by omega
   obtain ⟨oa2, c2, rfl, hc2, hK2⟩ := zqi5 OWN.out;have HK2 : Hid (K32At wr oa2 (j + 1) S) := hK2;have Hc2 : Hid (j + 1 <= c2) := hc2;have Hok : Hid (OKF j = true) := hok;have HR2 : Hid (KeyRow wr oa2) := zqih OWN.out rfl;clear hK2 OWN hc2 hok;go_wp2
   (try go_ret2)
   exact hRC.out _ _ hM (.inl ⟨Hok.out, oa2, c2, rfl, Hc2.out, HK2.out, HR2.out⟩)
theorem zqwt (k : Nat -> Int) (P : Nat -> Nat -> Int) (oa : Option Addr) (n c : Nat) (w : World) (hk : Bytes 32 k) (hn : n <= 1000) (hP : ∀ i, i < n -> Bytes 32 (P i)) (hK : K32At w oa n P) (hT : Tabs w) :
  Calls Tryz.prog 215 #[.agg (ints .u8 32 k), .slice oa n c] w (zqkv w k P n) := (zqls k P oa n c w hk hn hP hK hT).mono fun _ _ h => h.1
theorem zq0q {f : FuncId} {args : Array Value} {W : World} {k : Nat -> Int} {P : Nat -> Nat -> Int} {n : Nat} (h : Calls Tryz.prog f args W (zqic W k P n)) (ho : zqbi k P n = true) :
  Calls Tryz.prog f args W fun e w' => ∃ oa c, e = .returned (.tuple #[.slice oa (n + 1) c, .bool true]) /\ n + 1 <= c /\ K32At w' oa (n + 1) (zqb2 k P) /\ KeyRow w' oa /\ Below W.heap.size W w' := by
 refine h.mono ?_
 rintro e w' ⟨⟨hb, ⟨_, oa, c, he, hc, hK⟩ | ⟨h2, _⟩⟩, hr⟩
 ·exact ⟨oa, c, he, hc, hK, hr _ _ _ he, hb⟩
 ·rw [ho] at h2; cases h2
theorem zrdn : zq7z := fun k P oa n c W hk hn hP hK hT => zqwt k P oa n c W hk hn hP hK hT
end Go.Proofs.YtfglcifnjaknnaaGreatDoor
