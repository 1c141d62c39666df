/- Q13 -/
import Derived.Test.YtfglcifnjaknnaaGreatDoorTrk
import Derived.Test.YtfglcifnjaknnaaGreatDoorQ11
import Derived.Test.YtfglcifnjaknnaaGreatDoorQ12
import Derived.Test.YtfglcifnjaknnaaGreatDoorRel
import Derived.Test.YtfglcifnjaknnaaGreatDoorL11
import Derived.Test.YtfglcifnjaknnaaGreatDoorR12
import Derived.Test.YtfglcifnjaknnaaGreatDoorR11
set_option linter.unusedVariables false
set_option linter.unusedSimpArgs false
set_option maxRecDepth 100000
set_option maxHeartbeats 4000000
namespace Go.Proofs.YtfglcifnjaknnaaGreatDoor
open Go.RowKit
theorem zq78 (k : Nat -> Int) (W : World) (hk : Bytes 32 k) : Calls Tryz.prog 211 #[.agg (ints .u8 32 k)] W (Rt W (.agg (ints .u8 64 (zqa6 k (pubF k))))) := zq29 k W hk
theorem zq0k (k : Nat -> Int) (W : World) (hk : Bytes 32 k) : Calls Tryz.prog 35 #[.agg (ints .u8 32 k)] W (Rt W (.agg (ints .u8 32 (pubF k)))) := zqn9 k W hk
attribute [local irreducible] zqda zqbw oneF macF shaF strOf keyV shV pubV upF upOK pubF
theorem zq0p (a b p q : Nat -> Int) (w : World) (ha : Bytes 32 a) (hq : Bytes 32 q) (hT : Tabs w) :
  Calls Tryz.prog 213 #[.agg (ints .u8 64 (zqa6 a p)), .agg (ints .u8 64 (zqa6 b q))] w (Rt w (.agg (ints .u8 64 (zqa6 (upF a q) (pubF (upF a q)))))) := by
 have hTT : Hid (Tabs w) := hT;have c1 := fun (W : World) (h : Tabs W) => zq0f a q W ha hq h;have c2 : ∀ W : World, Calls Tryz.prog 211 #[.agg (ints .u8 32 (upF a q))] W (Rt W (.agg (ints .u8 64 (zqa6 (upF a q) (pubF (upF a q)))))) := fun W => zq78 (upF a q) W (zqoy _ _);generalize upF a q = S at *;generalize pubF S = PS at *;generalize upOK a q = OK at *;clear ha hq hT;have hG := Grew.refl w;have fl : True := trivial;have fm : True := trivial;have fr : True := trivial
 go_enter Tryz.func213, Tryz.ntmps213
 go_wp2_with fail;generalize hW : ((w.alloc (.cells (ints .u8 64 (zqa6 (a) (p))) 306)).alloc (.cells (ints .u8 64 (zqa6 (b) (q))) 306)).alloc (.cells (ints .u8 64 (zqa6 (zqd) (zqd))) 306) = w1;replace fl : zqe w1 (w.heap.size) = some (.cells (ints .u8 64 (zqa6 (a) (p))) 306) := zqs hW;replace fm : zqe w1 (w.heap.size + 1) = some (.cells (ints .u8 64 (zqa6 (b) (q))) 306) := zqs hW;replace fr : zqe w1 (w.heap.size + 1 + 1) = some (.cells (ints .u8 64 (zqa6 (zqd) (zqd))) 306) := zqs hW;replace hG : Below w.heap.size w w1 := zqam hW;clear hW;have lfl := zqa fl;have lfm := zqa fm;have lfr := zqa fr;go_wp2_with fail
 (refine (c1 _ (hTT.out.later hG)).mono ?_; rintro e w2 ⟨rfl, hb⟩; replace fl := zqc hb fl; have lfl := zqa fl; replace fm := zqc hb fm; have lfm := zqa fm; replace fr := zqc hb fr; have lfr := zqa fr; replace hG : Below w.heap.size w w2 := Grew.trans (by exact zqf) hb; clear hb)
 go_wp2_with fail;have fs : zqe (w2.alloc (.cells (ints .u8 32 (S)) 29)) w2.heap.size = some (.cells (ints .u8 32 (S)) 29) := zqg _ _ _ rfl;replace fl : zqe (w2.alloc (.cells (ints .u8 32 (S)) 29)) (w.heap.size) = some (.cells (ints .u8 64 (zqa6 (a) (p))) 306) := zqj _ fl;replace fm : zqe (w2.alloc (.cells (ints .u8 32 (S)) 29)) (w.heap.size + 1) = some (.cells (ints .u8 64 (zqa6 (b) (q))) 306) := zqj _ fm;replace fr : zqe (w2.alloc (.cells (ints .u8 32 (S)) 29)) (w.heap.size + 1 + 1) = some (.cells (ints .u8 64 (zqa6 (zqd) (zqd))) 306) := zqj _ fr;replace hG : Below w.heap.size w (w2.alloc (.cells (ints .u8 32 (S)) 29)) := Grew.alloc hG _;clear lfl lfm lfr;generalize w2.alloc (.cells (ints .u8 32 (S)) 29) = w3 at *;generalize w2.heap.size = gs at *;have lfl := zqa fl;have lfm := zqa fm;have lfr := zqa fr
 have lfs := zqa fs;go_wp2_with fail
 (refine (c2 _).mono ?_; rintro e w4 ⟨rfl, hb⟩; replace fl := zqc hb fl; have lfl := zqa fl; replace fm := zqc hb fm; have lfm := zqa fm; replace fr := zqc hb fr; have lfr := zqa fr; replace fs : zqe w4 (gs) = some (.cells (ints .u8 32 (S)) 29) := zqc hb (by exact zqh); have lfs := zqa fs; replace hG : Below w.heap.size w w4 := Grew.trans (by exact zqf) hb; clear hb)
 go_wp2;refine zqag rfl _ 306 _ (0, 0) _ rfl (zqq _ fr) Tryz.underlying306 rfl (by rw [zqi]; kernel_rfl) rfl ⟨rfl, by exact zqf⟩
theorem zqx1 (f1 f2 : Nat -> Int) (w : World) (h1 : Bytes 64 f1) (h2 : Bytes 64 f2) (hT : Tabs w) :
  Calls Tryz.prog 213 #[.agg (ints .u8 64 f1), .agg (ints .u8 64 f2)] w (Rt w (.agg (ints .u8 64 (zqa6 (upF f1 (fun k => f2 (k + 32))) (pubF (upF f1 (fun k => f2 (k + 32)))))))) := by
 have := zq0p f1 f2 (fun k => f1 (k + 32)) (fun k => f2 (k + 32)) w (fun i hi => h1 i (by omega)) (fun i hi => h2 (i + 32) (by omega)) hT;rw [zqp7, zqp7] at this;exact this
theorem zre8 (oa : Option Addr) (m c n : Nat) (w : World) (hm : m + 1 = 2 * n) (hn : n <= 1024) :
  Calls Tryz.prog 218 #[.agg #[.slice oa m c]] w (Rt w (.int .i64 n)) := by
 have hq : ((m : Int) + 1).tdiv 2 = (n : Int) := by rw [Int.tdiv_eq_ediv_of_nonneg (by omega)]; omega
 have hm2 : (m : Int) <= 2048 := by omega
 have hG := Grew.refl w;have ft : True := trivial
 go_enter Tryz.func218, Tryz.ntmps218
 go_wp2_with fail;generalize hW : w.alloc (.cells #[.slice oa m c] 289) = w1;replace ft : zqe w1 (w.heap.size) = some (.cells #[.slice oa m c] 289) := zqs hW;replace hG : Below w.heap.size w w1 := zqam hW;clear hW;have lft := zqa ft;go_wp2;go_ret;exact ⟨by first | rfl | rw [hq] | simp [hq], hG⟩
def zra8 (w : World) (n : Nat) (F : Nat -> Nat -> Int) (e : Ending) (w' : World) : Prop := ∃ oa c, e = .returned (.slice oa n c) /\ n <= c /\ K32At w' oa n F /\ Below w.heap.size w w'
theorem zqoc (S P : Nat -> Nat -> Int) (g m c : Nat) (w : World) (hm2 : m <= 2048) (hR : Row64 w g m (fun j => zqa6 (S j) (P j))) :
  Calls Tryz.prog 232 #[.agg #[.slice (some ⟨g, 0, none⟩) m c]] w (zra8 w (m - 1) (fun i => P (i + 1))) := by
 have HR : Hid (Row64 w g m (fun j => zqa6 (S j) (P j))) := hR;clear hR;have hG := Grew.refl w;have ft : True := trivial
 go_enter Tryz.func232, Tryz.ntmps232
 go_wp2_with fail;generalize hW : w.alloc (.cells #[.slice (some ⟨g, 0, none⟩) m c] 289) = w1;replace ft : zqe w1 (w.heap.size) = some (.cells #[.slice (some ⟨g, 0, none⟩) m c] 289) := zqs hW;replace hG : Below w.heap.size w w1 := zqam hW;clear hW;have lft := zqa ft;go_wp2_with fail
 go_loopw [9, 3, 4, 5] (fun i v _ _ wr => ∃ (j : Nat) (v0 : Value), v0 = v /\ j <= m /\ i = .int .i64 j /\ Below w.heap.size w wr /\ Hid (wr.ownsRow w.heap.size 29 32 v0 (j - 1) (k32L (fun i => P (i + 1)) (j - 1)))) (fun i _ _ _ _ => m - (intOf i).toNat)
 case atStart => exact ⟨0, _, rfl, by omega, rfl, hG, World.ownsRow_nil _ _ _ _⟩
 case round =>
  clear hG ft lft;obtain ⟨j, v0, rfl, hj, rfl, hM, OWN⟩ := hrel
  by_cases hlt : j < m
  ·have l1 := (HR.out.later hM).load hlt
   have hi1 : (j : Int) < (m : Int) := by omega
   have hi0 : (0 : Int) <= (j : Int) := by omega
   have hsz := hM.size
   cases j with
   | zero =>
    have l2 := zq02 (by rw [Nat.zero_mul] at l1; exact l1);clear l1;go_wp2
    go_roundw
    case rel => exact ⟨1, _, rfl, by omega, by go_num, Grew.alloc hM _, OWN.out.alloc _⟩
    case measure => (simp [intOf] <;> omega)
   | succ q =>
    have hq0 : (0 : Int) < (q : Int) + 1 := by omega
    have OWN' : Hid (wr.ownsRow w.heap.size 29 32 v0 q (k32L (fun i => P (i + 1)) q)) := OWN.out;clear OWN;obtain ⟨g3, c3, w3, hr3, own3, hb3, -⟩ := zqnq w ((wr.alloc (.cells (ints .u8 64 (zqa6 (S (q + 1)) (P (q + 1)))) 306)).alloc (.cells (ints .u8 32 (P (q + 1))) 29)) w.heap.size v0 q (fun i => P (i + 1)) (wr.alloc (.cells (ints .u8 64 (zqa6 (S (q + 1)) (P (q + 1)))) 306)).heap.size _ _ (World.ownsRow.alloc (World.ownsRow.alloc OWN'.out _) _) (by omega) (zqg _ _ _ rfl) (Grew.alloc (Grew.alloc hM _) _) (Nat.le_refl _) (by simp; omega);have OWN3 : Hid (w3.ownsRow w.heap.size 29 32 (.slice (some ⟨g3, 0, none⟩) (q + 1) c3) (q + 1) (k32L (fun i => P (i + 1)) (q + 1))) := own3;have hx : (wr.alloc (.cells (ints .u8 64 (zqa6 (S (q + 1)) (P (q + 1)))) 306)).heap.size = wr.heap.size + 1 := by simp
    rw [hx] at hr3;clear own3 OWN';go_wp2
    go_roundw
    case rel => exact ⟨q + 1 + 1, _, rfl, by omega, by go_num, hb3, OWN3⟩
    case measure => (simp [intOf] <;> omega)
  ·obtain rfl : j = m := by omega
   obtain ⟨oa2, c2, rfl, hc2, hK2⟩ := zqi5 OWN.out;have HK2 : Hid (j - 1 <= c2 /\ K32At wr oa2 (j - 1) (fun i => P (i + 1))) := ⟨hc2, hK2⟩
   clear OWN hK2 hc2;go_wp2;go_ret;exact ⟨oa2, c2, rfl, HK2.out.1, HK2.out.2, hM⟩
end Go.Proofs.YtfglcifnjaknnaaGreatDoor
namespace Go.Proofs.YtfglcifnjaknnaaGreatDoor
open Go.RowKit
theorem zqcy {n j : Nat} (h1 : 1 <= n) (h2 : n <= 1024) (hj : j < n) : zqb6 n j = zqac n j := by unfold zqb6; rw [if_pos (by omega)]; rfl
theorem zqkd {n j : Int} (h : ¬ (1 <= n /\ n <= 1024 /\ 0 <= j /\ j < n)) : zqb6 n j = [] := by unfold zqb6; rw [if_neg h]
theorem zqwa (n : Nat) (j : Int) : (zqb6 n j).length <= 10 := by
 by_cases h : 1 <= (n : Int) /\ (n : Int) <= 1024 /\ 0 <= j /\ j < n
 ·obtain ⟨J, rfl⟩ := Int.eq_ofNat_of_zero_le h.2.2.1
  rw [zqcy (by omega) (by omega) (by omega)];exact zqe5 n J (by omega)
 ·rw [zqkd h]; simp
theorem zqqr (n : Nat) (h1 : 1 <= n) (hn : n <= 1024) (u : Nd) (i : Nat) (hi : (zqae 0 n)[i]? = some u) : i < 2 * n - 1 /\ idxN u.f u.s (allN n) 0 = (i : Int) /\ u.f <= 1024 /\ u.s <= 1024 := by
 have hl := (List.getElem?_eq_some_iff.1 hi).1;rw [zqcb 0 n h1] at hl;have hb := zqdp 0 n u (List.mem_of_getElem? hi);exact ⟨hl, by rw [zqhi h1 hn, zqzs u _ 0 i (zqmd 0 n h1) hi, Nat.zero_add], by omega, by omega⟩
theorem zqtv (n : Nat) (j : Int) (h1 : 1 <= n) (hn : n <= 1024) (k : Nat) (u : Nd) (h : (zqb6 n j)[k]? = some u) : ∃ i, i < 2 * n - 1 /\ idxN u.f u.s (allN n) 0 = (i : Int) /\ u.f <= 1024 /\ u.s <= 1024 := by
 by_cases hv : 1 <= (n : Int) /\ (n : Int) <= 1024 /\ 0 <= j /\ j < n
 ·obtain ⟨J, rfl⟩ := Int.eq_ofNat_of_zero_le hv.2.2.1
  rw [zqcy h1 hn (by omega)] at h;obtain ⟨i, _, hi⟩ := zqj7 n J h1 (List.mem_of_getElem? h);exact ⟨i, zqqr n h1 hn u i hi⟩
 ·rw [zqkd hv] at h; cases h
def cpF (P : Nat -> Nat -> Int) (n : Nat) (C : List Nd) : Nat -> Nat -> Int := fun k => P (idxN (ndAt C k).f (ndAt C k).s (allN n) 0).toNat
theorem zq7y {P : Nat -> Nat -> Int} {n k i : Nat} {C : List Nd} {u : Nd} (h : C[k]? = some u) (hi : idxN u.f u.s (allN n) 0 = (i : Int)) : cpF P n C k = P i := by
 unfold cpF;rw [zqgr h, hi]
 rfl
theorem zqvm (L : Nat -> Nat -> Int) (n J : Nat) (h1 : 1 <= n) (hn : n <= 1024) (k : Nat) (hk : k < (zqac n J).length) : cpF (fun i => pubF (zqd7 L n i)) n (zqac n J) k = copF L n J k := by
 obtain ⟨u, hu⟩ : ∃ u, (zqac n J)[k]? = some u := ⟨_, List.getElem?_eq_getElem hk⟩
 obtain ⟨i, _, hi⟩ := zqj7 n J h1 (List.mem_of_getElem? hu);rw [zq7y hu (zqqr n h1 hn u i hi).2.1, zqiu hi];unfold copF;rw [zqgr hu]
theorem zq6c {ops : Array Oper} {o : Oper} {a : Act} {K : Act -> World -> Prop} {Q : Exit -> Act -> World -> Prop} {E : Prop} (hgd : o.guard = none) (s x : Operand) (ho : o.op = .call { callee := .builtin .append, args := #[s, x], argTypes := #[44, 44] })
  (w W : World) (base : Nat) (v : Value) (n : Nat) (F : Nat -> Nat -> Int) (g2 : Nat) (t2 : TypeId) (fr : Nat × Nat) (hs : a.eval s = v) (hx : a.eval x = .slice (some ⟨g2, 0, none⟩) 1 1) (own : W.ownsRow base 29 32 v n (k32L F n)) (hn : n <= 1048576)
  (hg2 : zqe W g2 = some (.cells (ints .u8 32 (F n)) t2 fr)) (hG : Below w.heap.size w W) (hwb : w.heap.size <= base) (hbW : base <= W.heap.size)
  (h : ∀ g cap w', w'.ownsRow base 29 32 (.slice (some ⟨g, 0, none⟩) (n + 1) cap) (n + 1) (k32L F (n + 1)) -> Below w.heap.size w w' -> (∀ m ob, m < base -> zqe W m = some ob -> zqe w' m = some ob) -> K (a.put o.dst (.slice (some ⟨g, 0, none⟩) (n + 1) cap)) w') :
  if Region.wanted o (yielded ops a.tmps) = true then Oper.wp Tryz.prog o a W K Q else E :=
 step_cells (i := (Tryz.prog.info? 29).get zqb) (z := ((Tryz.prog.info? 29).get zqb).zero.get zqb) 32 32 Tryz.underlying44 zqb zqb zqb zqb zqb (by decide) (by decide) hgd s x ho w W base v n (k32L F n) (ints .u8 32 (F n)) g2 t2 fr hs hx own hn hg2 (zqi _ _ _)
  (fun u hu => by
   have h1 := zqa1 .u8 32 (F n);rw [Array.all_eq_true'] at h1;exact h1 u (by simpa using hu)) hG hwb hbW fun g cap w' ho hb hk _ => h g cap w' (by rw [zqgu]; exact ho) hb hk
attribute [local irreducible] zqda zqbw oneF macF shaF strOf keyV shV pubV upF upOK pubF
theorem zqpw (S P : Nat -> Nat -> Int) (g m c n : Nat) (j : Int) (w : World) (hm : m + 1 = 2 * n) (h1 : 1 <= n) (hn : n <= 1024) (hj0 : -9223372036854775808 <= j) (hj1 : j <= 9223372036854775807) (hR : Row64 w g m (fun j => zqa6 (S j) (P j))) :
  Calls Tryz.prog 204 #[.agg #[.slice (some ⟨g, 0, none⟩) m c], .int .i64 j] w (zrf2 w (zqb6 n j).length (cpF P n (zqb6 n j))) := by
 have HR : Hid (Row64 w g m (fun j => zqa6 (S j) (P j))) := hR;have c1 := fun W : World => zre8 (some ⟨g, 0, none⟩) m c n W hm hn;have c2 := fun W : World => zqly (n : Int) j W hj0 hj1;have hcl := zqwa n j;have hci : Hid (∀ (k : Nat) (u : Nd), (zqb6 n j)[k]? = some u -> ∃ i, i < m /\ idxN u.f u.s (allN n) 0 = (i : Int) /\ u.f <= 1024 /\ u.s <= 1024 /\ cpF P n (zqb6 n j) k = P i) := fun k u hu => by
  obtain ⟨i, a, b, c, d⟩ := zqtv n j h1 hn k u hu;exact ⟨i, by omega, b, c, d, zq7y hu b⟩
 have c3 : Hid (∀ (u : Nd) (W : World), u.f <= 1024 -> u.s <= 1024 -> Calls Tryz.prog 219 #[.int .i64 (n : Int), .agg #[.int .i64 (u.f : Int), .int .i64 (u.s : Int)]] W (Rt W (.int .i64 (idxN u.f u.s (allN n) 0)))) := fun u W a b => zqx5 n u.f u.s W (by omega) (by omega);generalize cpF P n (zqb6 n j) = Z at *;generalize zqb6 n j = C at *;clear hR;have hG := Grew.refl w;have ft : True := trivial
 go_enter Tryz.func204, Tryz.ntmps204
 go_wp2_with fail;generalize hW : w.alloc (.cells #[.slice (some ⟨g, 0, none⟩) m c] 289) = w1;replace ft : zqe w1 (w.heap.size) = some (.cells #[.slice (some ⟨g, 0, none⟩) m c] 289) := zqs hW;replace hG : Below w.heap.size w w1 := zqam hW;clear hW;have lft := zqa ft;go_wp2_with fail
 (refine (c1 _).mono ?_; rintro e w2 ⟨rfl, hb⟩; replace ft := zqc hb ft; have lft := zqa ft; replace hG : Below w.heap.size w w2 := Grew.trans (by exact zqf) hb; clear hb)
 go_wp2_with fail;refine (c2 _).mono ?_
 rintro e w3 ⟨oC, kC, rfl, hC, hb3⟩;replace ft := zqc hb3 ft;replace hG : Below w.heap.size w w3 := Grew.trans hG hb3;have HC : Hid (NdsAt w3 oC C) := hC;clear hC hb3 c2 lft;have lft := zqa ft;go_wp2_with fail
 go_loopw [13, 5, 7] (fun i v _ wr => ∃ (k : Nat) (v0 : Value), v0 = v /\ k <= C.length /\ i = .int .i64 k /\ Below w3.heap.size w3 wr /\ Hid (wr.ownsRow w3.heap.size 29 32 v0 k (k32L Z k))) (fun i _ _ _ => C.length - (intOf i).toNat)
 case atStart => exact ⟨0, _, rfl, by omega, rfl, Grew.refl _, World.ownsRow_nil _ _ _ _⟩
 case round =>
  clear lft;obtain ⟨k, v0, rfl, hk, rfl, hM3, OWN⟩ := hrel;replace ft := zqc hM3 ft;have hGr : Below w.heap.size w wr := Grew.trans hG hM3;have lft := zqa ft
  by_cases hlt : k < C.length
  ·obtain ⟨u, hu⟩ : ∃ u, C[k]? = some u := ⟨_, List.getElem?_eq_getElem hlt⟩
   obtain ⟨i, hi, hidx, hu1, hu2, hZ⟩ := hci.out k u hu;have cI := fun W : World => c3.out u W hu1 hu2;rw [hidx] at cI;have hcell : ∃ gC o, oC = some ⟨gC, o, none⟩ /\ gC < wr.heap.size /\ cellOf (zqe wr gC) (o + k * 2) = some (.int .i64 u.f) /\ cellOf (zqe wr gC) (o + k * 2 + 1) = some (.int .i64 u.s) := by
    rcases HC.out.later hM3 with h0 | ⟨g', o', e, hg', hl⟩
    ·subst h0; simp at hlt
    ·obtain ⟨l1, l2⟩ := hl k u hu
     rw [Nat.mul_comm] at l1 l2;exact ⟨g', o', e, hg', l1, l2⟩
   obtain ⟨gC, oo, rfl, hgC, l1, l2⟩ := hcell;have hi1 : (k : Int) < (C.length : Int) := by omega
   have hi0 : (0 : Int) <= (k : Int) := by omega
   have hii1 : (i : Int) < (m : Int) := by omega
   have hii0 : (0 : Int) <= (i : Int) := by omega
   have hk20 : k <= 20 := by omega
   clear c3 hci hu hidx hm hn h1;go_wp2_with fail;have fv : zqe (wr.alloc (.cells #[.int .i64 (u.f : Int), .int .i64 (u.s : Int)] 304)) wr.heap.size = some (.cells #[.int .i64 (u.f : Int), .int .i64 (u.s : Int)] 304) := zqg _ _ _ rfl;have ft4 : zqe (wr.alloc (.cells #[.int .i64 (u.f : Int), .int .i64 (u.s : Int)] 304)) w.heap.size = some (.cells #[.slice (some ⟨g, 0, none⟩) m c] 289) := zqj _ ft;have hG4 : Below w.heap.size w (wr.alloc (.cells #[.int .i64 (u.f : Int), .int .i64 (u.s : Int)] 304)) := Grew.alloc hGr _;have hM4 : Below w3.heap.size w3 (wr.alloc (.cells #[.int .i64 (u.f : Int), .int .i64 (u.s : Int)] 304)) := Grew.alloc hM3 _;have OWN4 : Hid ((wr.alloc (.cells #[.int .i64 (u.f : Int), .int .i64 (u.s : Int)] 304)).ownsRow w3.heap.size 29 32 v0 k (k32L Z k)) := OWN.out.alloc _;clear ft lft hGr hM3 OWN l1 l2 hgC
   generalize wr.alloc (.cells #[.int .i64 (u.f : Int), .int .i64 (u.s : Int)] 304) = w4 at *;generalize wr.heap.size = gv at *;have lft := zqa ft4;have lfv := zqa fv;have hl : ∀ q : More, (zqah 29 (.pointer (some ⟨g, i * 64 + 32, none⟩))).run Tryz.prog (more w4 q) = .ok (.value (.agg (ints .u8 32 (P i)))) (more w4 q) := fun q => (HR.out.later (Grew.more hG4 q)).load1 hi
   (refine zqsx 11 zqb zqb zqb zqb zqb ?_; simp only [List.take_succ_cons, List.take_zero]; (repeat (first | refine zqv rfl ?_ | (refine zqn rfl ?_; apply Exists.intro))); refine zqbt ?_; intro γ hinj hbase; (repeat (first | (refine zqx rfl ?_; (refine zAa ?_)) | ((first | refine zqm rfl (fun _ => rfl) ?_ | (refine zAf ?_) | (refine zAd ?_) | ((try simp only [Nat.zero_add, Nat.reduceAdd]); apply zqbj zqy; (focus rfl); (focus (intro W; simp only [List.map_toArray, List.map_cons, List.map_nil]; first | (with_reducible exact zqf3 _ W) | exact zqf3 _ W)); (focus (exact zq7))) | (apply zqaa; (focus rfl); (focus rfl); (focus rfl); (focus (intro W hC hF; go_big_quiet_want; go_big_quiet_op; (first | go_big_quiet_on | (apply Exists.intro; refine ⟨fun _ => ?_, ?_⟩; (focus (first | (with_reducible exact Calls.of_more (c1 _)) | (with_reducible exact Calls.of_more (cI _)))); go_big_quiet_on)); exact wpQuiet_nil rfl)); (focus (first | exact fun _ => ⟨rfl, rfl⟩ | exact fun h => absurd h (by decide))))); (refine zAa ?_)) | refine zql rfl (fun _ => rfl) ?_ | (refine zAc ?_))))
   (refine zqfr ?_; rintro _ ⟨mq, rfl⟩ hF; simp only [List.forall_mem_cons] at hF; obtain ⟨hv, -⟩ := hF)
   refine zqt (i := 11) (fuel := 1) zqb rfl ?_
   intro K hK;refine zq6c rfl (.tmp 17) (.tmp 27) rfl w3 (more w4 mq) w3.heap.size v0 k Z (γ 10) _ _ rfl rfl (zqey OWN4.out (zqo w4 mq)) (by omega) (by rw [hZ]; exact hv) (Grew.more hM4 mq) (Nat.le_refl _) (Grew.more hM4 mq).size ?_
   intro g3 c3 w5 own3 hM5 hk3;have OWN5 : Hid (w5.ownsRow w3.heap.size 29 32 (.slice (some ⟨g3, 0, none⟩) (k + 1) c3) (k + 1) (k32L Z (k + 1))) := own3;refine hK _ _ ?_
   clear hK K
   (refine zqt (i := 12) (fuel := 0) zqb rfl ?_; intro K hK; go_simp; refine hK _ _ ?_; clear hK K)
   (refine wpAny_done zqb ?_ _)
   go_wp2
   go_roundw
   case rel => exact ⟨k + 1, _, rfl, by omega, by go_num, hM5, OWN5⟩
   case measure => (simp [intOf] <;> omega)
  ·obtain rfl : k = C.length := by omega
   have HR2 : Hid (∀ oa m c, v0 = .slice oa m c -> KeyRow wr oa) := fun oa m c e => zqih OWN.out e;obtain ⟨oa2, c2, rfl, -, hK2⟩ := zqi5 OWN.out;have HK2 : Hid (K32At wr oa2 C.length Z) := hK2;clear OWN hK2;go_wp2;go_ret;exact ⟨oa2, c2, rfl, ⟨HK2.out, HR2.out _ _ _ rfl⟩, hGr⟩
theorem zqf4 (S P : Nat -> Nat -> Int) (g m c n : Nat) (j : Int) (w : World) (hm : m + 1 = 2 * n) (h1 : 1 <= n) (hn : n <= 1024) (hj0 : -9223372036854775808 <= j) (hj1 : j <= 9223372036854775807) (hR : Row64 w g m (fun j => zqa6 (S j) (P j))) :
  Calls Tryz.prog 204 #[.agg #[.slice (some ⟨g, 0, none⟩) m c], .int .i64 j] w (zq2y w (zqb6 n j).length (cpF P n (zqb6 n j))) := (zqpw S P g m c n j w hm h1 hn hj0 hj1 hR).mono fun _ _ ⟨oa, c, a, b, d⟩ => ⟨oa, c, a, b.1, d⟩
end Go.Proofs.YtfglcifnjaknnaaGreatDoor
namespace Go.Proofs.YtfglcifnjaknnaaGreatDoor
open Go.RowKit
attribute [local irreducible] zqda zqbw oneF macF shaF strOf keyV shV pubV upF upOK pubF
end Go.Proofs.YtfglcifnjaknnaaGreatDoor
namespace Go.Proofs.YtfglcifnjaknnaaGreatDoor
open Go.RowKit
attribute [local go_sem] Oper.semAt_some
theorem cells_kept {W W' : World} {b B : Nat} {cs : Array Value} {t : TypeId} {fr : Nat × Nat} {row : Option Nat} (h : zqe W b = some (.cells cs t fr)) (hg : W.grownBy W' row) (hr : ∀ r, row = some r -> B <= r /\ ∃ o : Obj, W.heap[r]? = some o /\ o.isCells = false) : zqe W' b = zqe W b := by
 refine hg.block b (zqa h) fun e => ?_
 obtain ⟨_, o, ho, hc⟩ := hr b e.symm;unfold zqe at h;rw [h] at ho
 cases ho
 cases hc
theorem zqp5 {W W1 : World} {B P : Nat} {cs : Array Value} {t : TypeId} {fr : Nat × Nat} (c : Array Value) (hP : zqe W P = some (.cells cs t fr)) (hb : Below W.heap.size W W1) : KeepsFrom B W (W1.setRow P c) :=
 ⟨by rw [zq0]; exact hb.size, fun k o _ hk ho => by
  have hne : k ≠ P := fun e => by
   subst e;unfold zqe at hP;rw [hP] at hk
   cases hk
   cases ho
  exact (zq1 W1 P k c hne).trans ((hb.block k (Array.getElem?_eq_some_iff.1 hk).1).trans hk)⟩
theorem zqlr {w : World} {g m : Nat} {F : Nat -> Nat -> Int} (h : Row64 w g m F) : ∃ cs, zqe w g = some (.cells cs 306 (0, 0)) := by
 obtain ⟨cs, h, _⟩ := h;exact ⟨cs, h⟩
theorem Below.setRow9 {n : Nat} {X Y : World} (h : Below n X Y) (g : Nat) (cs : Array Value) (hg : n <= g) : Below n X (Y.setRow g cs) :=
 h.trans ⟨rfl, rfl, rfl, by rw [zq0]; exact Nat.le_refl _, fun k hk => zq1 Y g k cs (by omega)⟩
theorem zqmj {P : Program} {fn : Func} {tmps : Array Value} {w : World} {p q : Tmp} {ty : TypeId} (h : fn.results = #[.cell p ty, .tmp q]) (g : Nat) (t : TypeId) (cs : Array Value) (fr : Nat × Nat) (d : TypeDesc) (v : Value)
  (hp : tmps.getD p undef = .pointer (some ⟨g, 0, none⟩)) (hq : tmps.getD q undef = v) (hg : zqe w g = some (.cells cs t fr))
  (hu : P.underlying ty = some d) (hd : (match d with | .struct _ | .array _ _ => true | _ => false) = true) (hi : (P.info? ty).map (·.size) = some cs.size) : (results fn tmps).run P w = .ok (.tuple #[.agg cs, v]) w := by
 have hp' : tmps[p]?.getD undef = .pointer (some ⟨g, 0, none⟩) := by simpa using hp
 have hq' : tmps[q]?.getD undef = v := by simpa using hq
 unfold zqe at hg
 simp [results, h, hp', hq', asAddr, run_loadVar_row w g t ty cs fr d hg hu hd hi]
def newR (L : Nat -> Nat -> Int) (G : Nat -> Nat -> Int) (v : Nd) (i : Nat) : Nat -> Int :=
 if v.s = 1 then zqa6 (L v.f) (pubF (L v.f)) else zqa6 (upF (G (i + 1)) (fun k => G (i + 2 * zqw v.s) (k + 32))) (pubF (upF (G (i + 1)) (fun k => G (i + 2 * zqw v.s) (k + 32))))
theorem zqnf {a b : Nat -> Int} (ha : Bytes 32 a) (hb : Bytes 32 b) : Bytes 64 (zqa6 a b) := fun i hi => by
 unfold zqa6
 split
 ·exact ha i (by omega)
 ·exact hb _ (by omega)
theorem zqya {L : Nat -> Nat -> Int} {G : Nat -> Nat -> Int} {v : Nd} {i : Nat} (h : v.s = 1 -> Bytes 32 (L v.f)) : Bytes 64 (newR L G v i) := by
 unfold newR
 split
 ·rename_i e
  exact zqnf (h e) (zqek _)
 ·exact zqnf (zqoy _ _) (zqek _)
theorem zqys (L : Nat -> Nat -> Int) {n i : Nat} {v : Nd} (h0 : 1 <= n) (hv : (zqae 0 n)[i]? = some v) (G : Nat -> Nat -> Int) (hG : 2 <= v.s -> G (i + 1) = prF L n (i + 1) /\ G (i + 2 * zqw v.s) = prF L n (i + 2 * zqw v.s)) : newR L G v i = prF L n i := by
 have hb := zqdp 0 n v (List.mem_of_getElem? hv);have hs := hb.2.2.2 h0;unfold newR
 by_cases e : v.s = 1
 ·rw [if_pos e]
  have hv' : (zqae 0 n)[i]? = some ⟨v.f, 1⟩ := by rw [hv]; cases v; simp only at e; rw [e]
  unfold prF;rw [zqju L hv']
 ·rw [if_neg e]
  obtain ⟨a, b⟩ := hG (by omega);rw [a, b];have hq : (fun k => prF L n (i + 2 * zqw v.s) (k + 32)) = pubF (zqd7 L n (i + 2 * zqw v.s)) := by
   funext k
   unfold prF zqa6;rw [if_neg (by omega), show k + 32 - 32 = k by omega]
  rw [hq];have hu : ∀ q, upF (prF L n (i + 1)) q = upF (zqd7 L n (i + 1)) q := fun q => zqyt (fun j hj => by unfold prF zqa6; rw [if_pos hj]) q;rw [hu, <- zqts L hv (by omega)]
  rfl
attribute [local irreducible] zqda zqbw oneF macF shaF strOf keyV shV pubV upF upOK pubF
theorem zqre (L : Nat -> Nat -> Int) (oa : Option Addr) (n m c : Nat) (w : World) (hm : m + 1 = 2 * n) (h2 : 2 <= n) (hn : n <= 1024) (hL : ∀ i, i < n -> Bytes 32 (L i)) (hK : K32At w oa n L) (hT : Tabs w) :
  Calls Tryz.prog 202 #[.slice oa n c] w fun e w' => ∃ g c2, e = .returned (.tuple #[.agg #[.slice (some ⟨g, 0, none⟩) m c2], .bool true]) /\ Row64 w' g m (prF L n) /\ Below w.heap.size w w' := by
 have HK : Hid (K32At w oa n L) := hK;have hTT : Hid (Tabs w) := hT;obtain ⟨ad, rfl⟩ := hK.addr (by omega);clear hK hT;have h1 : 1 <= n := by omega
 have hlen : (zqae 0 n).length = m := by rw [zqcb 0 n h1]; omega
 have cA : ∀ W : World, Calls Tryz.prog 209 #[.int .i64 (n : Int)] W (zqqb W (zqae 0 n)) := fun W => by
  have := zqvi (n : Int) W;rw [zqhi h1 hn] at this;exact this
 have hNv : Hid (∀ i v, (zqae 0 n)[i]? = some v -> 1 <= v.s /\ v.f + v.s <= n /\ v.s <= 1024 /\ (2 <= v.s -> i + 1 < (zqae 0 n).length /\ i + 2 * zqw v.s < (zqae 0 n).length)) := fun i v hv => by
  have hb := zqdp 0 n v (List.mem_of_getElem? hv);refine ⟨hb.2.2.2 h1, by omega, by omega, fun h => ?_⟩;obtain ⟨a, b⟩ := zqnu 0 n i v hv h;exact ⟨(List.getElem?_eq_some_iff.1 a).1, (List.getElem?_eq_some_iff.1 b).1⟩
 have hNt : Hid (∀ i v G, (zqae 0 n)[i]? = some v -> (2 <= v.s -> G (i + 1) = prF L n (i + 1) /\ G (i + 2 * zqw v.s) = prF L n (i + 2 * zqw v.s)) -> newR L G v i = prF L n i) := fun i v G hv h => zqys L h1 hv G h;have hm2 : m <= 2048 := by omega
 generalize prF L n = PF at *;generalize zqae 0 n = NN at *;subst hlen;have hi2 : (2 : Int) <= (n : Int) := by omega
 have hi3 : (n : Int) <= 1024 := by omega
 refine (callsIn_wide (n := 5)).1 ?_
 refine callsIn_of_wp_marks Tryz.func202 rfl trivial ?_
 simp only [Tryz.ntmps202, List.size_toArray, List.length_cons, List.length_nil, Nat.reduceAdd, Nat.reduceSub, Array.replicate_succ, Array.replicate_zero, List.push_toArray, List.append_toArray, List.nil_append, List.cons_append]
 gi_wp2_with fail
 have fl : zqe ((w.alloc (.cells #[.slice (some ad) n c] 44)).alloc (.cells #[.slice none 0 0] 289)) w.heap.size = some (.cells #[.slice (some ad) n c] 44) := zqj _ (zqg _ _ _ rfl);have fr : zqe ((w.alloc (.cells #[.slice (some ad) n c] 44)).alloc (.cells #[.slice none 0 0] 289)) (w.heap.size + 1) = some (.cells #[.slice none 0 0] 289) := zqg _ _ _ (by simp);have hG : Below w.heap.size w ((w.alloc (.cells #[.slice (some ad) n c] 44)).alloc (.cells #[.slice none 0 0] 289)) := Grew.alloc (Grew.alloc (Grew.refl w) _) _;generalize (w.alloc (.cells #[.slice (some ad) n c] 44)).alloc (.cells #[.slice none 0 0] 289) = w0 at *;refine ⟨trivial, (callsIn_wide.2 (cA _)).mono ?_⟩;rintro e w2 ⟨oN, kN, rfl, hN, hb⟩;replace fl := zqc hb fl;replace fr := zqc hb fr;have lw2 := zqa fr;replace hG : Below w.heap.size w w2 := Grew.trans hG hb
 have HN : Hid (NdsAt w2 oN NN) := hN;have flw := fl;have frw := fr;have hGw := hG;obtain ⟨gN, oo, rfl, hgN⟩ : ∃ gN o, oN = some ⟨gN, o, none⟩ /\ gN < w2.heap.size := by
  rcases hN with h0 | ⟨g', o', e, hg', _⟩
  ·subst h0; simp at hm; omega
  ·exact ⟨g', o', e, hg'⟩
 clear hN hb cA;obtain ⟨w3, hmk, hR0, hw3⟩ := zqv0 w2 NN.length (by omega);have HR0 : Hid (Row64 w3 w2.heap.size NN.length (fun _ => zqd)) := hR0;have hz3 : w3.heap.size = w2.heap.size + 1 := by rw [hw3]; simp
 have hb3 : Below w2.heap.size w2 w3 := by rw [hw3]; exact Grew.alloc (Grew.refl w2) _
 clear hR0 hw3
 gi_wp2_with fail
 replace fl := zqc hb3 fl;replace fr := zqc hb3 fr;replace hG : Below w.heap.size w w3 := Grew.trans hG hb3;refine ⟨trivial, (callsIn_wide.2 (zqq7 _ _ _ _)).mono ?_⟩;rintro e w4 ⟨rfl, rfl⟩
 gi_wp2_with fail
 have fp : zqe ((w3.alloc (.cells #[.slice (some ⟨w2.heap.size, 0, none⟩) NN.length NN.length] 287)).alloc (.cells #[.slice (some ⟨gN, oo, none⟩) NN.length kN] 298)) (w2.heap.size + 1) = some (.cells #[.slice (some ⟨w2.heap.size, 0, none⟩) NN.length NN.length] 287) := zqj _ (zqg _ _ _ hz3.symm);have fn : zqe ((w3.alloc (.cells #[.slice (some ⟨w2.heap.size, 0, none⟩) NN.length NN.length] 287)).alloc (.cells #[.slice (some ⟨gN, oo, none⟩) NN.length kN] 298)) (w2.heap.size + 1 + 1) = some (.cells #[.slice (some ⟨gN, oo, none⟩) NN.length kN] 298) := zqg _ _ _ (by simp [hz3]);have hb4 : Below w2.heap.size w2 ((w3.alloc (.cells #[.slice (some ⟨w2.heap.size, 0, none⟩) NN.length NN.length] 287)).alloc (.cells #[.slice (some ⟨gN, oo, none⟩) NN.length kN] 298)) := Grew.alloc (Grew.alloc hb3 _) _
 have HR4 : Hid (Row64 ((w3.alloc (.cells #[.slice (some ⟨w2.heap.size, 0, none⟩) NN.length NN.length] 287)).alloc (.cells #[.slice (some ⟨gN, oo, none⟩) NN.length kN] 298)) w2.heap.size NN.length (fun _ => zqd)) := HR0.out.later (Grew.alloc (Grew.alloc (Grew.refl w3) _) _);have hz4 : ((w3.alloc (.cells #[.slice (some ⟨w2.heap.size, 0, none⟩) NN.length NN.length] 287)).alloc (.cells #[.slice (some ⟨gN, oo, none⟩) NN.length kN] 298)).heap.size = w2.heap.size + 3 := by simp [hz3]
 replace fl := zqj (.cells #[.slice (some ⟨gN, oo, none⟩) NN.length kN] 298) (zqj (.cells #[.slice (some ⟨w2.heap.size, 0, none⟩) NN.length NN.length] 287) fl);replace fr := zqj (.cells #[.slice (some ⟨gN, oo, none⟩) NN.length kN] 298) (zqj (.cells #[.slice (some ⟨w2.heap.size, 0, none⟩) NN.length NN.length] 287) fr);clear HR0 hmk hb3 hz3;generalize (w3.alloc (.cells #[.slice (some ⟨w2.heap.size, 0, none⟩) NN.length NN.length] 287)).alloc (.cells #[.slice (some ⟨gN, oo, none⟩) NN.length kN] 298) = w4 at *;have HN4 : NdsAt w4 (some ⟨gN, oo, none⟩) NN := HN.out.later hb4;refine wpIn_rangeFunc_ownH rfl (by decide) (gf := 228) (lb := #[.pointer (some ⟨w2.heap.size + 1 + 1, 0, none⟩)]) rfl trivial (enters_of Tryz.func228 zqb rfl)
  (zqv1 () (w2.heap.size + 1 + 1) w2.heap.size gN oo kN NN 4 (by decide) (by omega) hgN w4 (by omega) fn HN4) zrdi (zrd6 (by omega)) (Below.refl _ _) (fun _ => rfl)
  (fun pre W => Below w2.heap.size w2 W /\ zqe W (w2.heap.size + 1) = some (.cells #[.slice (some ⟨w2.heap.size, 0, none⟩) NN.length NN.length] 287) /\ w2.heap.size + 1 + 1 < W.heap.size /\ ∃ G, Row64 W w2.heap.size NN.length G /\ (∀ i, i < NN.length -> Bytes 64 (G i)) /\ (pre = itA NN.length pre.length -> ∀ i, NN.length - pre.length <= i -> i < NN.length -> G i = PF i))
  (fun _ _ _ => False)
  (fun pre W W' row hs hg hr => ⟨(ownFrom_below (β := Unit) (Nat.le_refl _) (by omega)) () W W' row hs.1 hg hr, (cells_kept hs.2.1 hg hr).trans hs.2.1, Nat.lt_of_lt_of_le hs.2.2.1 hg.size, by
   obtain ⟨_, _, _, G, h3, h4, h5⟩ := hs;obtain ⟨cs, hc⟩ := zqlr h3;exact ⟨G, h3.by (cells_kept hc hg hr), h4, h5⟩⟩)
  (fun _ _ _ _ _ hs _ _ => hs)
  ⟨hb4, fp, by omega, fun _ => zqd, HR4.out, fun i hi j hj => ⟨Int.le_refl 0, by show (0 : Int) <= 255; decide⟩, fun _ i h1 h2 => by simp at h1; omega⟩
  (fun x a' W => ∃ Bv, w2.heap.size + 1 + 1 < Bv /\ zqe W Bv = some (.cells #[.int .i64 ((ndAt NN x.1).f : Int), .int .i64 ((ndAt NN x.1).s : Int)] 304) /\ a' = { tmps := #[Value.slice (some ad) n c, Value.pointer (some ⟨w.heap.size, 0, none⟩), Value.pointer (some ⟨w.heap.size + 1, 0, none⟩), Value.bool false, Value.slice (some ⟨gN, oo, none⟩) NN.length kN, Value.pointer (some ⟨w2.heap.size + 1, 0, none⟩), .int .i64 (x.1 : Int), .pointer (some ⟨Bv, 0, none⟩), undef, Value.slice (some ad) n c, Value.int .i64 (n : Int), Value.bool (decide ((n : Int) < 2)), Value.bool (decide ((n : Int) < 2)), Value.slice (some ad) n c, Value.int .i64 (n : Int), Value.bool (decide (1024 < (n : Int))), Value.bool (decide ((n : Int) < 2) || decide (1024 < (n : Int))), undef, Value.slice (some ad) n c, Value.int .i64 (n : Int), Value.slice (some ⟨gN, oo, none⟩) NN.length kN, Value.slice (some ⟨gN, oo, none⟩) NN.length kN, Value.int .i64 (NN.length : Int), Value.slice (some ⟨w2.heap.size, 0, none⟩) NN.length NN.length, Value.slice (some ⟨gN, oo, none⟩) NN.length kN, Value.func (Fn.func 228) #[] #[Value.pointer (some ⟨w2.heap.size + 1 + 1, 0, none⟩)], .int .i64 (x.1 : Int), .agg #[.int .i64 ((ndAt NN x.1).f : Int), .int .i64 ((ndAt NN x.1).s : Int)], undef, undef, undef, undef, undef, undef, undef, undef, undef, undef, undef, undef, undef, undef, undef, undef, undef, undef, undef, undef, undef, undef, undef, undef, undef, undef, undef, undef, undef, undef, undef, undef, undef], defers := [] })
  (fun x a' _ W W' row hs hg hr => by
   obtain ⟨Bv, h1, h2, h3⟩ := hs;exact ⟨Bv, h1, (cells_kept h2 hg hr).trans h2, h3⟩)
  ?assign ?body ?done ?stop
 case assign =>
  rintro l pre x W K ⟨hb, hp, hsz, G, hR, hGB, hGp⟩ hK
  gi_wp2
  exact hK _ _ ((KeepsOthers.alloc _ _).from _) ⟨(Below.refl w2.heap.size W).alloc hb.size _, fun _ _ _ e => zqj _ e⟩ ⟨Grew.alloc hb _, zqj _ hp, by simp; omega, G, hR.later (Grew.alloc (Grew.refl W) _), hGB, hGp⟩ ⟨W.heap.size, hsz, zqg _ _ _ rfl, rfl⟩
 case body =>
  rintro l pre ⟨i, hi⟩ a' W hl - ⟨hb, hp, hsz, G, hR, hGB, hGp⟩ ⟨Bv, hBv, fv, rfl⟩ hpl;obtain ⟨v, hv⟩ : ∃ v, NN[i]? = some v := ⟨_, List.getElem?_eq_getElem hi⟩
  simp only [zqgr hv] at fv ⊢
  obtain ⟨v1, v2, v3, v4⟩ := hNv.out i v hv;obtain ⟨cs0, hPc⟩ := zqlr hR;have HR : Hid (Row64 W w2.heap.size NN.length G) := hR;have fl2 := zqc hb flw;have hGW : Below w.heap.size w W := Grew.trans hGw hb;have lfl := zqa fl2;have lfv := zqa fv;have lp := zqa hp;have hi1 : (i : Int) < (NN.length : Int) := by omega
  have hi0 : (0 : Int) <= (i : Int) := by omega
  have hf1 : (v.f : Int) < (n : Int) := by omega
  have hf0 : (0 : Int) <= (v.f : Int) := by omega
  have hEND : Hid (∀ W' : World, Below w2.heap.size w2 W' -> zqe W' (w2.heap.size + 1) = some (.cells #[.slice (some ⟨w2.heap.size, 0, none⟩) NN.length NN.length] 287) -> w2.heap.size + 1 + 1 < W'.heap.size -> Row64 W' w2.heap.size NN.length (updR G i (newR L G v i)) ->
    Below w2.heap.size w2 W' /\ zqe W' (w2.heap.size + 1) = some (.cells #[.slice (some ⟨w2.heap.size, 0, none⟩) NN.length NN.length] 287) /\ w2.heap.size + 1 + 1 < W'.heap.size /\ ∃ G, Row64 W' w2.heap.size NN.length G /\ (∀ i, i < NN.length -> Bytes 64 (G i)) /\ (pre ++ [⟨i, hi⟩] = itA NN.length (pre ++ [(⟨i, hi⟩ : BkT NN.length)]).length -> ∀ j, NN.length - (pre ++ [(⟨i, hi⟩ : BkT NN.length)]).length <= j -> j < NN.length -> G j = PF j)) := fun W' q1 q2 q3 q4 => ⟨q1, q2, q3, _, q4, fun i' hi' => by
   unfold updR
   split
   ·exact zqya fun e => hL _ (by omega)
   ·exact hGB i' hi', fun hpre j h1 h2 => by
   obtain ⟨r1, r2⟩ := zq4q hpl hpre
   simp only at r2
   have hp := hGp r1;rw [List.length_append, show [(⟨i, hi⟩ : BkT NN.length)].length = 1 from rfl] at h1;unfold updR
   split
   ·rename_i e
    subst e;exact hNt.out j v G hv fun h => ⟨hp _ (by omega) (by have := v4 h; omega), hp _ (by have := zqb8 h; omega) (by have := v4 h; omega)⟩
   ·exact hp j (by omega) h2⟩
  clear hR hl
  by_cases e1 : v.s = 1
  ·have e1i : (v.s : Int) = 1 := by omega
   have hnr : newR L G v i = zqa6 (L v.f) (pubF (L v.f)) := by unfold newR; rw [if_pos e1]
   have cO := fun W : World => zq78 (L v.f) W (hL v.f (by omega));have lK := fun q : More => HK.out.loadK (show v.f < n by omega) (Grew.more hGW q);rw [e1i] at fv
   gi_wp2
   (refine zqgq 9 zqb zqb (by rintro ⟨_, _, h⟩; exact h) zqb zqb zqb zqb ?_; simp only [List.take_succ_cons, List.take_zero]; (repeat (first | go_big_quiet_skip | (go_big_quiet_want; go_big_quiet_op; first | go_big_quiet_on | (apply Exists.intro; refine ⟨fun _ => ?_, ?_⟩; (focus (first | (with_reducible exact Calls.of_more (cO _)))); go_big_quiet_on)))); refine wpQuiet_nil ?_; rintro _ ⟨mq, rfl⟩)
   obtain ⟨cs, hst, hR7⟩ := (HR.out.later (zqo W mq)).store hi (zqa6 (L v.f) (pubF (L v.f)));have HR7 : Hid (Row64 ((more W mq).setRow w2.heap.size cs) w2.heap.size NN.length (updR G i (newR L G v i))) := by rw [hnr]; exact hR7
   have HB7 : Hid (Below W.heap.size W (more W mq)) := zqo W mq;have HP7 : Hid (zqe ((more W mq).setRow w2.heap.size cs) (w2.heap.size + 1) = some (.cells #[.slice (some ⟨w2.heap.size, 0, none⟩) NN.length NN.length] 287)) := zqk _ _ (zqp mq hp) (by omega);have HW7 : Hid (Below w2.heap.size w2 ((more W mq).setRow w2.heap.size cs)) := Grew.setRow (Grew.more hb mq) _ _ (Nat.le_refl _);clear hR7 lK hnr
   (refine zqt (i := 9) (fuel := 0) zqb rfl ?_; intro K hK; go_simp; refine hK _ _ ?_; clear hK K)
   (refine wpAny_done zqb ?_ _)
   gi_wp2
   exact ⟨zqp5 cs hPc HB7.out, ⟨Below.setRow9 ((HB7.out).mono hb.size) _ _ (Nat.le_refl _), fun cs' t' fr' e => zqk _ _ (zqc HB7.out e) (by omega)⟩, hEND.out _ HW7.out HP7.out (by rw [zq0]; have := HB7.out.size; omega) HR7.out⟩
  ·have h2s : 2 <= v.s := by omega
   have e1i : ¬ ((v.s : Int) = 1) := by omega
   obtain ⟨v5, v6⟩ := v4 h2s;have hnr : newR L G v i = zqa6 (upF (G (i + 1)) (fun k => G (i + 2 * zqw v.s) (k + 32))) (pubF (upF (G (i + 1)) (fun k => G (i + 2 * zqw v.s) (k + 32)))) := by unfold newR; rw [if_neg e1]
   have cl := fun W : World => zqqc (v.s : Int) W (by omega);rw [show ((v.s : Int)).toNat = v.s by omega] at cl;have cU := fun (W : World) (h : Tabs W) => zqx1 (G (i + 1)) (G (i + 2 * zqw v.s)) W (hGB _ v5) (hGB _ v6) h;have hlb := zqb8 h2s
   gi_wp2_with fail
   refine ⟨trivial, (CallsIn.inRound l (callsIn_wide.2 (cl _))).mono ?_⟩;rintro e W2 ⟨rfl, hbL⟩;replace fv := zqc hbL fv;replace hp := zqc hbL hp;replace fl2 := zqc hbL fl2;replace hGW : Below w.heap.size w W2 := Grew.trans hGW hbL;have hb2 : Below w2.heap.size w2 W2 := Grew.trans hb hbL;have HRL : Hid (Row64 W2 w2.heap.size NN.length G) := HR.out.later hbL;have lfl := zqa fl2;have lfv := zqa fv;have lp := zqa hp;have HBL : Hid (Below W.heap.size W W2) := hbL;generalize newR L G v i = NR at *;generalize upF (G (i + 1)) (fun k => G (i + 2 * zqw v.s) (k + 32)) = U at *;generalize zqw v.s = M at *;have ht1 : ((i : Int) + 1).toNat = i + 1 := by omega
   have ht2 : ((i : Int) + 2 * (M : Int)).toNat = i + 2 * M := by omega
   have hj1 : (i : Int) + 1 < (NN.length : Int) := by omega
   have hj2 : (i : Int) + 2 * (M : Int) < (NN.length : Int) := by omega
   have hj3 : (0 : Int) <= (i : Int) + 1 := by omega
   have hj4 : (0 : Int) <= (i : Int) + 2 * (M : Int) := by omega
   have lP1 := fun q : More => (HRL.out.later (zqo W2 q)).load v5;have lP2 := fun q : More => (HRL.out.later (zqo W2 q)).load v6;clear hbL cl HR
   gi_wp2_with fail
   (refine zqgq 13 zqb zqb (by rintro ⟨_, _, h⟩; exact h) zqb zqb zqb zqb ?_; simp only [List.take_succ_cons, List.take_zero]; (repeat (first | go_big_quiet_skip | (go_big_quiet_want; go_big_quiet_op; first | go_big_quiet_on | (apply Exists.intro; refine ⟨fun _ => ?_, ?_⟩; (focus (first | (with_reducible exact Calls.of_more (cU _ (hTT.out.later (Grew.trans hGW (zqo W2 _))))))); go_big_quiet_on)))); refine wpQuiet_nil ?_; rintro _ ⟨mq, rfl⟩)
   obtain ⟨cs, hst, hR7⟩ := (HRL.out.later (zqo W2 mq)).store hi (zqa6 U (pubF U));have HR7 : Hid (Row64 ((more W2 mq).setRow w2.heap.size cs) w2.heap.size NN.length (updR G i NR)) := by rw [hnr]; exact hR7
   have HB7 : Hid (Below W.heap.size W (more W2 mq)) := Grew.more HBL.out mq;have HP7 : Hid (zqe ((more W2 mq).setRow w2.heap.size cs) (w2.heap.size + 1) = some (.cells #[.slice (some ⟨w2.heap.size, 0, none⟩) NN.length NN.length] 287)) := zqk _ _ (zqp mq hp) (by omega);have HW7 : Hid (Below w2.heap.size w2 ((more W2 mq).setRow w2.heap.size cs)) := Grew.setRow (Grew.more hb2 mq) _ _ (Nat.le_refl _);clear hR7 lP1 lP2 hnr
   (refine zqt (i := 13) (fuel := 0) zqb rfl ?_; intro K hK; go_simp; refine hK _ _ ?_; clear hK K)
   (refine wpAny_done zqb ?_ _)
   gi_wp2
   exact ⟨zqp5 cs hPc HB7.out, ⟨Below.setRow9 ((HB7.out).mono hb.size) _ _ (Nat.le_refl _), fun cs' t' fr' e => zqk _ _ (zqc HB7.out e) (by omega)⟩, hEND.out _ HW7.out HP7.out (by rw [zq0]; have := HB7.out.size; omega) HR7.out⟩
 case done =>
  rintro D xs W hD rfl ⟨hb, hp, hsz, G, hR, hGB, hGp⟩ hKD;have fr2 := zqc hb frw;have HE : Hid (Row64 W w2.heap.size NN.length PF) := hR.congr fun i hi => hGp (by rw [zqlv _ (Nat.le_refl _)]) i (by rw [zqlv _ (Nat.le_refl _)]; omega) hi;have hGW : Below w.heap.size w W := Grew.trans hGw hb;have lfr := zqa fr2;have lp := zqa hp;clear hR hGB hGp
  gi_wp2
  have hKD' : (W.setRow (w.heap.size + 1) #[.slice (some ⟨w2.heap.size, 0, none⟩) NN.length NN.length]).heap[D]? = some (.deferred (some [])) := (zq1 W (w.heap.size + 1) D _ (by omega)).trans hKD;have hp2 : zqe ((W.setRow (w.heap.size + 1) #[.slice (some ⟨w2.heap.size, 0, none⟩) NN.length NN.length]).putObj D (.deferred none)) (w.heap.size + 1) = some (.cells #[.slice (some ⟨w2.heap.size, 0, none⟩) NN.length NN.length] 289) := (World.putObj_heap_other (by omega)).trans (zqq _ fr2);have hE2 : zqe ((W.setRow (w.heap.size + 1) #[.slice (some ⟨w2.heap.size, 0, none⟩) NN.length NN.length]).putObj D (.deferred none)) w2.heap.size = zqe W w2.heap.size := (World.putObj_heap_other (by omega)).trans (zq1 _ _ _ _ (by omega));refine ⟨by simp, .inl ⟨_, _, rfl, run_takeDeferred hKD', ?_⟩⟩
  exact ⟨_, zqmj rfl _ _ _ (0, 0) _ _ rfl rfl hp2 Tryz.underlying289 rfl zqb, w2.heap.size, _, rfl, HE.out.by hE2, (Grew.setRow hGW _ _ (by omega)).trans (belowK_b (w := w) (Nat.le_refl _) _ D _ _ (by omega) hKD' rfl rfl)⟩
 case stop =>
  rintro D c pre W _ _ h _;exact h.elim
end Go.Proofs.YtfglcifnjaknnaaGreatDoor
namespace Go.Proofs.YtfglcifnjaknnaaGreatDoor
open Go.RowKit
attribute [local irreducible] zqda zqbw oneF macF shaF strOf keyV shV pubV upF upOK pubF
end Go.Proofs.YtfglcifnjaknnaaGreatDoor
namespace Go.Proofs.YtfglcifnjaknnaaGreatDoor
open Go.RowKit
attribute [local irreducible] zqda zqbw oneF macF shaF strOf keyV shV pubV upF upOK pubF
end Go.Proofs.YtfglcifnjaknnaaGreatDoor
