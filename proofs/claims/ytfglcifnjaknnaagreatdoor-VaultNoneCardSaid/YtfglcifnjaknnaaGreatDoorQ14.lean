/- Q14 -/
import Derived.Test.YtfglcifnjaknnaaGreatDoorTrk
import Derived.Test.YtfglcifnjaknnaaGreatDoorQ11
import Derived.Test.YtfglcifnjaknnaaGreatDoorQ13
import Derived.Test.YtfglcifnjaknnaaGreatDoorQ12
set_option linter.unusedVariables false
set_option linter.unusedSimpArgs false
set_option maxRecDepth 100000
set_option maxHeartbeats 4000000
namespace Go.Proofs.YtfglcifnjaknnaaGreatDoor
open Go.RowKit
theorem zqj1 (w : World) (g : Nat) (cs : Array Value) (ad : Addr) (h : ad.block ≠ g) : (w.setRow g cs).cell? ad = w.cell? ad := by
 unfold World.cell? World.setRow
 simp only [Array.getElem?_modify]
 rw [if_neg (fun e => h e.symm)]
theorem zqry {w : World} {g : Nat} {cs : Array Value} {t : TypeId} {fr : Nat × Nat} (h : zqe w g = some (.cells cs t fr)) (c : Array Value) : (w.setRow g c).setRow g cs = w := by
 unfold zqe at h;unfold World.setRow;have e : ∀ (H : Array Obj), H[g]? = some (.cells cs t fr) -> (H.modify g fun o => match o with | .cells _ t fr => .cells c t fr | o => o).modify g (fun o => match o with | .cells _ t fr => .cells cs t fr | o => o) = H := fun H hH => by
  apply Array.ext_getElem?
  intro i
  simp only [Array.getElem?_modify]
  by_cases hi : g = i
  ·subst hi
   simp [hH]
  ·simp [hi]
 have := e w.heap h
 cases w
 simp only at this ⊢
 first | (congr 1) | simp_all
def zqri (cs : Array Value) : Prop := ∀ (i : Nat) (x : Int), cs[i]? ≠ some (Value.int .u8 x)
theorem add_block (ad : Addr) (i : Nat) : (ad.add i).block = ad.block := by unfold Addr.add; split <;> rfl
theorem K32At.aside {w : World} {oa : Option Addr} {n : Nat} {F : Nat -> Nat -> Int} (h : K32At w oa n F) {g : Nat} {cs : Array Value} {t : TypeId} {fr : Nat × Nat} (hg : zqe w g = some (.cells cs t fr)) (hne : ∀ ad, oa = some ad -> ad.block ≠ g) (c : Array Value) : K32At (w.setRow g c) oa n F := by
 rcases h with h | ⟨ad, e, hl⟩
 ·exact .inl h
 ·have hlt : g < w.heap.size := zqa hg
  refine .inr ⟨ad, e, fun w' hb' j hj i hi => ?_⟩;have hx := zql7 hb' (show g < (w.setRow g c).heap.size by simpa [World.setRow] using hlt) cs;rw [zqry hg c] at hx;have := hl _ hx j hj i hi;rw [zqj1 _ _ _ _ (by rw [add_block]; exact hne ad e)] at this;exact this
theorem K32At.put {w : World} {oa : Option Addr} {n : Nat} {F : Nat -> Nat -> Int} (h : K32At w oa n F) {g : Nat} {cs : Array Value} {t : TypeId} {fr : Nat × Nat} (hg : zqe w g = some (.cells cs t fr)) (hn : zqri cs) (c : Array Value) : K32At (w.setRow g c) oa n F := by
 by_cases h0 : n = 0
 ·exact .inl h0
 ·refine h.aside hg (fun ad e eb => ?_) c
  rcases h with h | ⟨ad', e', hl⟩
  ·exact h0 h
  ·cases e'.symm.trans e
   have h1 := hl w (Grew.refl _) 0 (by omega) 0 (by decide);have hc : ∀ a : Addr, a.block = g -> ∀ v, w.cell? a = some v -> ∃ i, cs[i]? = some v := fun a ha v hv => by
    unfold zqe at hg;unfold World.cell? at hv;rw [ha, hg] at hv
    simp only at hv
    first | exact ⟨_, hv⟩ | (split at hv <;> first | exact ⟨_, hv⟩ | simp at hv)
   obtain ⟨i, hi⟩ := hc _ ((add_block _ _).trans eb) _ h1;exact hn i _ hi
theorem KeyRow.ne {w : World} {oa : Option Addr} (h : KeyRow w oa) {g : Nat} {cs : Array Value} {fr : Nat × Nat} (hg : zqe w g = some (.cells cs 293 fr)) : ∀ ad, oa = some ad -> ad.block ≠ g := fun ad e eb => by
 obtain ⟨cur, f, h1⟩ := h ad e;rw [eb, hg] at h1
 cases h1
theorem KeyRow.put {w : World} {oa : Option Addr} (h : KeyRow w oa) {g : Nat} {cs : Array Value} {fr : Nat × Nat} (hg : zqe w g = some (.cells cs 293 fr)) (c : Array Value) : KeyRow (w.setRow g c) oa := fun ad e => by
 obtain ⟨cur, f, h1⟩ := h ad e;exact ⟨cur, f, (zq1 _ _ _ _ (h.ne hg ad e)).trans h1⟩
theorem SecAt.put {w : World} {oa : Option Addr} {n : Nat} {F : Nat -> Nat -> Int} (h : SecAt w oa n F) {g : Nat} {cs : Array Value} {fr : Nat × Nat} (hg : zqe w g = some (.cells cs 293 fr)) (c : Array Value) : SecAt (w.setRow g c) oa n F := ⟨h.1.aside hg (h.2.ne hg) c, h.2.put hg c⟩
theorem Row32.by {T : TypeId} {w w' : World} {g m : Nat} {F : Nat -> Nat -> Int} (h : Row32 T w g m F) (hb : zqe w' g = zqe w g) : Row32 T w' g m F := by
 obtain ⟨cur, h, r⟩ := h;exact ⟨cur, hb.trans h, r⟩
theorem Row32.congr {T : TypeId} {w : World} {g m : Nat} {F G : Nat -> Nat -> Int} (h : Row32 T w g m F) (e : ∀ j, j < m -> F j = G j) : Row32 T w g m G := by
 obtain ⟨cur, h, hs, hc⟩ := h;exact ⟨cur, h, hs, fun j hj i hi => by rw [<- e j hj]; exact hc j hj i hi⟩
theorem zqhb {W : World} {b g m : Nat} {F : Nat -> Nat -> Int} {cs : Array Value} {fr : Nat × Nat} (hb : zqe W b = some (.cells cs 293 fr)) (h : Row32 29 W g m F) : ¬ (g = b) := fun e => by
 obtain ⟨cur, h2, _⟩ := h;rw [e, hb] at h2
 cases h2
theorem zqwq (w : World) : (zeroValue 293).run Tryz.prog w = .ok (.agg #[.int .i64 0, .int .i64 0, .slice none 0 0, .slice none 0 0]) w := by kernel_rfl
@[go_sem] theorem zrfz (w : World) : (zqbm 293).run Tryz.prog w = .ok (.value (.agg #[.int .i64 0, .int .i64 0, .slice none 0 0, .slice none 0 0])) w := by kernel_rfl
attribute [local irreducible] zqda zqbw oneF macF shaF strOf keyV shV pubV upF upOK pubF
theorem zqmq (n l : Int) (oS oC : Option Addr) (nS cS nC cC : Nat) (F : Nat -> Nat -> Int) (w : World) (h0 : 0 < nC) (hn : nC <= 1000) (hK : K32At w oC nC F) :
  Calls Tryz.prog 208 #[.agg #[.int .i64 n, .int .i64 l, .slice oS nS cS, .slice oC nC cC]] w (zq2y w nC F) := by
 have HK : Hid (K32At w oC nC F) := hK;obtain ⟨ad, rfl⟩ := hK.addr h0;clear hK;have hG := Grew.refl w;have fp : True := trivial
 go_enter Tryz.func208, Tryz.ntmps208
 go_wp2_with fail;generalize hW : w.alloc (.cells #[.int .i64 n, .int .i64 l, .slice oS nS cS, .slice (some ad) nC cC] 293) = w1;replace fp : zqe w1 (w.heap.size) = some (.cells #[.int .i64 n, .int .i64 l, .slice oS nS cS, .slice (some ad) nC cC] 293) := zqs hW;replace hG : Below w.heap.size w w1 := zqam hW;clear hW;have lfp := zqa fp;go_wp2_with fail;refine (zqje ad nC cC F _ h0 (by omega) (HK.out.later hG)).mono ?_
 rintro e w3 ⟨g, cap, rfl, -, -, hR, hb⟩;replace hG : Below w.heap.size w w3 := Grew.trans hG hb;have HR : Hid (Row32 29 w3 g nC F) := hR;clear hR hb fp lfp;go_wp2;go_ret;exact ⟨_, _, rfl, HR.out.k32, hG⟩
end Go.Proofs.YtfglcifnjaknnaaGreatDoor
namespace Go.Proofs.YtfglcifnjaknnaaGreatDoor
open Go.RowKit
theorem zqpv (a b : Int) (o p : Option Addr) (m k n l : Nat) : zqri #[.int .i64 a, .int .i64 b, .slice o m k, .slice p n l] := fun i x h => by
 rcases i with _ | _ | _ | _ | i <;> simp at h
attribute [local irreducible] zqda zqbw oneF macF shaF strOf keyV shV pubV upF upOK pubF
theorem zqm5 (k : Nat -> Int) (Z : Nat -> Nat -> Int) (oa : Option Addr) (n J d c : Nat) (w : World) (h2 : 2 <= n) (hn : n <= 1024) (hJ : J < n) (hd : (zqac n J).length = d) (hk : Bytes 32 k) (hZ : ∀ i, i < d -> Bytes 32 (Z i)) (hok : zqbi k Z d = true) (hK : K32At w oa d Z) (hT : Tabs w) :
  Calls Tryz.prog 203 #[.int .i64 (n : Int), .int .i64 (J : Int), .agg (ints .u8 32 k), .slice oa d c] w fun e w' => ∃ oS cS gC cC, e = .returned (.tuple #[.agg #[.int .i64 n, .int .i64 J, .slice oS (d + 1) cS, .slice (some ⟨gC, 0, none⟩) d cC], .bool true]) /\ SecAt w' oS (d + 1) (zqb2 k Z) /\ Row32 29 w' gC d Z /\ Below w.heap.size w w' := by
 have h1 : 1 <= n := by omega
 have hd10 : d <= 10 := by rw [<- hd]; exact zqe5 n J hn
 have hd0 : 0 < d := by
  rcases Nat.eq_zero_or_pos d with h | h
  ·rw [h] at hd
   have e1 := zqp2 n J;rw [hd, zqwy n J h1 hJ] at e1;have e2 := congrArg (fun v : Option Nd => (v.map (·.s)).getD 0) e1
   simp at e2
   omega
  ·exact h
 have cD : ∀ W : World, Calls Tryz.prog 214 #[.int .i64 (n : Int), .int .i64 (J : Int)] W (Rt W (.int .i64 (d : Int))) := fun W => by
  have := zqm9 (n : Int) (J : Int) W (by omega) (by omega);rw [if_pos (by omega), zqh3 h1 hn hJ, zqdm, hd] at this;rw [show (((d + 1 : Nat) : Int) - 1) = (d : Int) by omega] at this;exact this
 have cC : ∀ W : World, K32At W oa d Z -> Tabs W -> Calls Tryz.prog 215 #[.agg (ints .u8 32 k), .slice oa d c] W fun e w' => ∃ oa c, e = .returned (.tuple #[.slice oa (d + 1) c, .bool true]) /\ d + 1 <= c /\ K32At w' oa (d + 1) (zqb2 k Z) /\ KeyRow w' oa /\ Below W.heap.size W w' := fun W h hT => zq0q (zqls k Z oa d c W hk (by omega) hZ h hT) hok;have HK : Hid (K32At w oa d Z) := hK;have hTT : Hid (Tabs w) := hT;obtain ⟨ad, rfl⟩ := hK.addr hd0;generalize zqb2 k Z = S at *;clear hK hT hok hZ hk hd hJ h1;have hn2 : ¬ ((n : Int) < 2) := by omega
 have hn3 : ¬ ((1024 : Int) < (n : Int)) := by omega
 have hG := Grew.refl w;have fk : True := trivial;have fr : True := trivial
 go_enter Tryz.func203, Tryz.ntmps203
 go_wp2_with fail;generalize hW : (w.alloc (.cells (ints .u8 32 (k)) 29)).alloc (.cells #[.int .i64 0, .int .i64 0, .slice none 0 0, .slice none 0 0] 293) = w1;replace fk : zqe w1 (w.heap.size) = some (.cells (ints .u8 32 (k)) 29) := zqs hW;replace fr : zqe w1 (w.heap.size + 1) = some (.cells #[.int .i64 0, .int .i64 0, .slice none 0 0, .slice none 0 0] 293) := zqs hW;replace hG : Below w.heap.size w w1 := zqam hW;clear hW;have lfk := zqa fk;have lfr := zqa fr;go_wp2_with fail;refine (cD _).mono ?_
 rintro e w2 ⟨rfl, hb⟩;replace fk := zqc hb fk;replace fr := zqc hb fr;replace lfk := zqa fk;replace lfr := zqa fr;replace hG := Grew.trans hG hb;clear hb;go_wp2_with fail;refine (cC _ (HK.out.later hG) (hTT.out.later hG)).mono ?_
 rintro e w3 ⟨oS, cS, rfl, -, hS, hR, hb⟩;replace fk := zqc hb fk;replace fr := zqc hb fr;replace lfk := zqa fk;replace lfr := zqa fr;replace hG := Grew.trans hG hb;have HS : Hid (SecAt w3 oS (d + 1) S) := ⟨hS, hR⟩
 clear hb hS hR cC cD;go_wp2_with fail;refine (zqje ad d c Z _ hd0 (by omega) (HK.out.later hG)).mono ?_
 rintro e w4 ⟨g, cap, rfl, -, -, hR, hb⟩;replace fk := zqc hb fk;replace fr := zqc hb fr;replace HS := hid1 (HS.out.later hb);replace lfk := zqa fk;replace lfr := zqa fr;replace hG := Grew.trans hG hb;have HC : Hid (Row32 29 w4 g d Z) := hR;clear hb hR;go_wp2;refine zqa2 rfl _ 293 #[.int .i64 (n : Int), .int .i64 (J : Int), .slice oS (d + 1) cS, .slice (some ⟨g, 0, none⟩) d cap] (0, 0) _ _ rfl rfl (by exact zqh) Tryz.underlying293 rfl rfl rfl ⟨oS, cS, g, cap, rfl, HS.out.put fr _, HC.out.by (zq1 _ _ _ _ (zqhb fr HC.out)), by exact zqf⟩
theorem zqph (k : Nat -> Int) (Z : Nat -> Nat -> Int) (oa : Option Addr) (n J d c : Nat) (w : World) (h2 : 2 <= n) (hn : n <= 1024) (hJ : J < n) (hd : (zqac n J).length = d) (hk : Bytes 32 k) (hZ : ∀ i, i < d -> Bytes 32 (Z i)) (hok : zqbi k Z d = true) (hK : K32At w oa d Z) (hT : Tabs w) :
  Calls Tryz.prog 203 #[.int .i64 (n : Int), .int .i64 (J : Int), .agg (ints .u8 32 k), .slice oa d c] w fun e w' => ∃ oS cS gC cC, e = .returned (.tuple #[.agg #[.int .i64 n, .int .i64 J, .slice oS (d + 1) cS, .slice (some ⟨gC, 0, none⟩) d cC], .bool true]) /\ K32At w' oS (d + 1) (zqb2 k Z) /\ Row32 29 w' gC d Z /\ Below w.heap.size w w' := (zqm5 k Z oa n J d c w h2 hn hJ hd hk hZ hok hK hT).mono fun _ _ ⟨a, b, c, d, h1, h2, h3⟩ => ⟨a, b, c, d, h1, h2.1, h3⟩
end Go.Proofs.YtfglcifnjaknnaaGreatDoor
namespace Go.Proofs.YtfglcifnjaknnaaGreatDoor
open Go.RowKit
theorem zq36 (a b c d : Int) (w : World) : (binOp .eql 304 (.agg #[.int .i64 a, .int .i64 b]) (.agg #[.int .i64 c, .int .i64 d])).run Tryz.prog w = .ok (.bool (ndEq a b c d)) w := by
 unfold ndEq
 simp [go_sem]
 by_cases h1 : a = c <;> by_cases h2 : b = d <;> simp [h1, h2]
attribute [local go_sem ↓ high] zq36
attribute [local irreducible] ndEq
def zqeb (j : Int) : List Nd -> Nat -> Int
 | [], _ => -1
 | u :: l, k => if (u.f : Int) <= j /\ j < (u.f : Int) + (u.s : Int) then (k : Int) else zqeb j l (k + 1)
theorem zqxh {j : Int} {k : Nat} {u : Nd} {L : List Nd} (h : L[k]? = some u) (he : (u.f : Int) <= j /\ j < (u.f : Int) + (u.s : Int)) : zqeb j (L.drop k) k = k := by rw [drop_at h, zqeb, if_pos he]
theorem zqrq {j : Int} {k : Nat} {u : Nd} {L : List Nd} (h : L[k]? = some u) (he : ¬ ((u.f : Int) <= j /\ j < (u.f : Int) + (u.s : Int))) : zqeb j (L.drop k) k = zqeb j (L.drop (k + 1)) (k + 1) := by rw [drop_at h, zqeb, if_neg he]
theorem zqvw {j : Int} {k : Nat} {L : List Nd} (h : L.length <= k) : zqeb j (L.drop k) k = -1 := by rw [List.drop_of_length_le h]; rfl
theorem zqq5 {j : Int} : ∀ (L : List Nd) (k i : Nat) (v : Nd), L[i]? = some v -> ((v.f : Int) <= j /\ j < (v.f : Int) + (v.s : Int)) -> (∀ (i' : Nat) (v' : Nd), L[i']? = some v' -> ((v'.f : Int) <= j /\ j < (v'.f : Int) + (v'.s : Int)) -> i' = i) -> zqeb j L k = ((k + i : Nat) : Int)
 | [], k, i, v, h, _, _ => by simp at h
 | u :: L, k, 0, v, h, hv, hu => by
  simp at h
  subst h;rw [zqeb, if_pos hv]; rfl
 | u :: L, k, i + 1, v, h, hv, hu => by
  have hn : ¬ ((u.f : Int) <= j /\ j < (u.f : Int) + (u.s : Int)) := fun hh => by
   have := hu 0 u rfl hh
   omega
  rw [zqeb, if_neg hn, zqq5 L (k + 1) i v (by rw [List.getElem?_cons_succ] at h; exact h) hv fun i' v' h' hv' => by
   have := hu (i' + 1) v' (by rw [List.getElem?_cons_succ]; exact h') hv'
   omega]
  congr 1
  omega
attribute [local irreducible] zqda zqbw oneF macF shaF strOf keyV shV pubV upF upOK pubF
theorem zq9o (L : List Nd) (oa : Option Addr) (c f s : Nat) (w : World) (hl : L.length <= 100000) (hN : NdsAt w oa L) :
  Calls Tryz.prog 223 #[.slice oa L.length c, .agg #[.int .i64 (f : Int), .int .i64 (s : Int)]] w (Rt w (.int .i64 (idxN f s L 0))) := by
 have HN0 : Hid (NdsAt w oa L) := hN;have hR : Hid (idxN f s (L.drop 0) 0 = idxN f s L 0) := by show _ = _; rw [List.drop_zero]
 obtain ⟨R, hRe⟩ : ∃ R, idxN f s L 0 = R := ⟨_, rfl⟩
 rw [hRe] at hR ⊢;clear hRe hN;have hG := Grew.refl w;have fv : True := trivial
 go_enter Tryz.func223, Tryz.ntmps223
 go_wp2_with fail;generalize hW : w.alloc (.cells #[.int .i64 (f : Int), .int .i64 (s : Int)] 304) = w1;replace fv : zqe w1 (w.heap.size) = some (.cells #[.int .i64 (f : Int), .int .i64 (s : Int)] 304) := zqs hW;replace hG : Below w.heap.size w w1 := zqam hW;clear hW;have lfv := zqa fv;have HN : Hid (NdsAt w1 oa L) := HN0.out.later hG;clear HN0;go_wp2_with fail
 go_loopw [8, 5] (fun i _ wr => ∃ k : Nat, k <= L.length /\ i = .int .i64 k /\ Below w1.heap.size w1 wr /\ Hid (idxN f s (L.drop k) k = R)) (fun i _ _ => L.length - (intOf i).toNat)
 case atStart => exact ⟨0, by omega, rfl, Grew.refl _, hR⟩
 case round =>
  obtain ⟨k, hk, rfl, hM, hI⟩ := hrel
  by_cases hlt : k < L.length
  ·replace fv := zqc hM fv
   replace lfv := zqa fv;obtain ⟨u, hu⟩ : ∃ u, L[k]? = some u := ⟨_, List.getElem?_eq_getElem hlt⟩
   rcases HN.out.later hM with h0 | ⟨g, o, rfl, hg, hl⟩
   ·subst h0; simp at hlt
   obtain ⟨l1, l2⟩ := hl k u hu;have l1' : cellOf (zqe wr g) (o + k * 2) = some (.int .i64 u.f) := by rw [Nat.mul_comm]; exact l1
   have l2' : cellOf (zqe wr g) (o + k * 2 + 1) = some (.int .i64 u.s) := by rw [Nat.mul_comm]; exact l2
   have hi1 : (k : Int) < (L.length : Int) := by omega
   have hk9 : (k : Int) <= 100000 := by omega
   have hi0 : (0 : Int) <= (k : Int) := by omega
   by_cases he : u.f = f /\ u.s = s
   ·have e := hI.out
    rw [zrba hu he] at e;have hne : ndEq (f : Int) (s : Int) (u.f : Int) (u.s : Int) = true := zqu3 ⟨by omega, by omega⟩;subst e;clear hI hR hl he hu;go_wp2_with fail
    ((first | (with_reducible refine zqab zqb zqb ?_) | refine zq2 zqb zqb ?_); (refine zAi ?_); refine wpQuiet_nil ?_; rintro _ ⟨mq, rfl⟩)
    have hM2 : Below w1.heap.size w1 (more wr mq) := Grew.more hM mq;clear l1 l2 l1' l2' fv lfv hg;generalize more wr mq = w5 at *;go_wp2;go_ret;exact ⟨rfl, Grew.trans hG hM2⟩
   ·have e := hI.out
    rw [zq5o hu he] at e;have E : Hid (idxN f s (L.drop (k + 1)) (k + 1) = R) := e;have hne : ndEq (f : Int) (s : Int) (u.f : Int) (u.s : Int) = false := zq25 fun h => he ⟨by omega, by omega⟩;clear hI hR hl e he hu;go_wp2_with fail
    ((first | (with_reducible refine zqab zqb zqb ?_) | refine zq2 zqb zqb ?_); (refine zAi ?_); refine wpQuiet_nil ?_; rintro _ ⟨mq, rfl⟩)
    have hM2 : Below w1.heap.size w1 (more wr mq) := Grew.more hM mq;clear l1 l2 l1' l2' fv lfv hg;generalize more wr mq = w5 at *;go_wp2
    go_roundw
    case rel => exact ⟨k + 1, by omega, by go_num, hM2, E⟩
    case measure => (simp [intOf] <;> omega)
  ·have e := hI.out
   rw [zrby (by omega)] at e;subst e;clear hI hR;go_wp2;go_ret;exact ⟨rfl, Grew.trans hG hM⟩
theorem zqy4 (f s : Nat) (j : Int) (gp : Nat) (w : World) (hf : f <= 2199023255552) (hs : s <= 2199023255552) (hj0 : -9223372036854775808 <= j) (hj1 : j <= 9223372036854775807) (hj : zqe w gp = some (.cells #[.int .i64 j] 3)) :
  Calls Tryz.prog 221 #[.agg #[.int .i64 (f : Int), .int .i64 (s : Int)], .pointer (some ⟨gp, 0, none⟩)] w (Rt w (.bool (decide ((f : Int) <= j /\ j < (f : Int) + (s : Int))))) := by
 have c1 := fun W : World => zqin f s j W hf hs hj0 hj1;generalize decide ((f : Int) <= j /\ j < (f : Int) + (s : Int)) = B at *;have lgp := zqa hj;clear hf hs hj0 hj1;have hG := Grew.refl w;have fv : True := trivial
 go_enter Tryz.func221, Tryz.ntmps221
 go_wp2_with fail;generalize hW : w.alloc (.cells #[.int .i64 (f : Int), .int .i64 (s : Int)] 304) = w1;replace fv : zqe w1 (w.heap.size) = some (.cells #[.int .i64 (f : Int), .int .i64 (s : Int)] 304) := zqs hW;replace hG : Below w.heap.size w w1 := zqam hW;clear hW;have lfv := zqa fv;have fj : zqe w1 gp = some (.cells #[.int .i64 j] 3) := zqc hG hj;have lfj := zqa fj;go_wp2_with fail;refine (c1 _).mono ?_
 rintro e w2 ⟨rfl, hb⟩;replace fv := zqc hb fv;replace lfv := zqa fv;replace hG := Grew.trans hG hb;clear hb;go_wp2;go_ret;exact ⟨rfl, hG⟩
theorem zq9b (L : List Nd) (oa : Option Addr) (c : Nat) (j : Int) (gp : Nat) (w : World) (hl : L.length <= 100000) (hN : NdsAt w oa L) (hL : ∀ v ∈ L, v.f <= 1024 /\ v.s <= 1024) (hj0 : -9223372036854775808 <= j) (hj1 : j <= 9223372036854775807) (hj : zqe w gp = some (.cells #[.int .i64 j] 3)) :
  Calls Tryz.prog 220 #[.slice oa L.length c, .func (.func 221) #[] #[.pointer (some ⟨gp, 0, none⟩)]] w (Rt w (.int .i64 (zqeb j L 0))) := by
 have HN : Hid (NdsAt w oa L) := hN;have hR : Hid (zqeb j (L.drop 0) 0 = zqeb j L 0) := by show _ = _; rw [List.drop_zero]
 obtain ⟨R, hRe⟩ : ∃ R, zqeb j L 0 = R := ⟨_, rfl⟩
 rw [hRe] at hR ⊢;have cT : Hid (∀ (u : Nd) (W : World), u ∈ L -> zqe W gp = some (.cells #[.int .i64 j] 3) -> Calls Tryz.prog 221 #[.agg #[.int .i64 (u.f : Int), .int .i64 (u.s : Int)], .pointer (some ⟨gp, 0, none⟩)] W (Rt W (.bool (decide ((u.f : Int) <= j /\ j < (u.f : Int) + (u.s : Int)))))) := fun u W hu h => zqy4 u.f u.s j gp W (by have := hL u hu; omega) (by have := hL u hu; omega) hj0 hj1 h;have lgp := zqa hj;clear hRe hN hL hj0 hj1;have hG := Grew.refl w
 go_enter Tryz.func220, Tryz.ntmps220
 go_wp2_with fail
 go_loopw [8, 5] (fun i _ wr => ∃ k : Nat, k <= L.length /\ i = .int .i64 k /\ Below w.heap.size w wr /\ Hid (zqeb j (L.drop k) k = R)) (fun i _ _ => L.length - (intOf i).toNat)
 case atStart => exact ⟨0, by omega, rfl, Grew.refl _, hR⟩
 case round =>
  obtain ⟨k, hk, rfl, hM, hI⟩ := hrel
  by_cases hlt : k < L.length
  ·obtain ⟨u, hu⟩ : ∃ u, L[k]? = some u := ⟨_, List.getElem?_eq_getElem hlt⟩
   rcases HN.out.later hM with h0 | ⟨g, o, rfl, hg, hl⟩
   ·subst h0; simp at hlt
   obtain ⟨l1, l2⟩ := hl k u hu;have l1' : cellOf (zqe wr g) (o + k * 2) = some (.int .i64 u.f) := by rw [Nat.mul_comm]; exact l1
   have l2' : cellOf (zqe wr g) (o + k * 2 + 1) = some (.int .i64 u.s) := by rw [Nat.mul_comm]; exact l2
   have hi1 : (k : Int) < (L.length : Int) := by omega
   have hk9 : (k : Int) <= 100000 := by omega
   have hi0 : (0 : Int) <= (k : Int) := by omega
   have cU := fun W : World => cT.out u W (List.mem_of_getElem? hu);have hjr := zqc hM hj
   by_cases he : (u.f : Int) <= j /\ j < (u.f : Int) + (u.s : Int)
   ·have e := hI.out
    rw [zqxh hu he] at e;rw [decide_eq_true he] at cU;subst e;clear hI hR hl he hu cT;go_wp2_with fail;refine (cU _ hjr).mono ?_
    rintro e w5 ⟨rfl, hb5⟩;have hM2 : Below w.heap.size w w5 := Grew.trans hM hb5;clear l1 l2 l1' l2' hg hb5 hjr cU;go_wp2;go_ret;exact ⟨rfl, hM2⟩
   ·have e := hI.out
    rw [zqrq hu he] at e;have E : Hid (zqeb j (L.drop (k + 1)) (k + 1) = R) := e;rw [decide_eq_false he] at cU;clear hI hR hl e he hu cT;go_wp2_with fail;refine (cU _ hjr).mono ?_
    rintro e w5 ⟨rfl, hb5⟩;have hM2 : Below w.heap.size w w5 := Grew.trans hM hb5;clear l1 l2 l1' l2' hg hb5 hjr cU;go_wp2
    go_roundw
    case rel => exact ⟨k + 1, by omega, by go_num, hM2, E⟩
    case measure => (simp [intOf] <;> omega)
  ·have e := hI.out
   rw [zqvw (by omega)] at e;subst e;clear hI hR;go_wp2;go_ret;exact ⟨rfl, hM⟩
end Go.Proofs.YtfglcifnjaknnaaGreatDoor
namespace Go.Proofs.YtfglcifnjaknnaaGreatDoor
open Go.RowKit
def NAt (n : Nat) (L : List Nd) (u : Value) (w : World) : Prop := ∀ oa c, u = .slice oa n c -> NdsAt w oa L
theorem zq60 (n : Nat) (L : List Nd) (u : Value) : Stab (NAt n L u) none := fun w w' h e oa c hu => (h oa c hu).later e
def PaS (x y : Int) (nS nC : Nat) (b : Bool) (u : Value) : Prop := ∃ oS kS oC kC, u = .tuple #[.agg #[.int .i64 x, .int .i64 y, .slice oS nS kS, .slice oC nC kC], .bool b]
def PaAt (x y : Int) (nS nC : Nat) (b : Bool) (Q : Option Addr -> Nat -> Option Addr -> Nat -> World -> Prop) (u : Value) (w : World) : Prop := ∀ oS kS oC kC, u = .tuple #[.agg #[.int .i64 x, .int .i64 y, .slice oS nS kS, .slice oC nC kC], .bool b] -> Q oS kS oC kC w
theorem zq9m {Q : Option Addr -> Nat -> Option Addr -> Nat -> World -> Prop} (hQ : ∀ a k c l W W', Q a k c l W -> Below W.heap.size W W' -> Q a k c l W') (x y : Int) (nS nC : Nat) (b : Bool) (u : Value) : Stab (PaAt x y nS nC b Q u) none := fun w w' h e a k c l hu => hQ _ _ _ _ _ _ (h a k c l hu) e
attribute [local irreducible] zqda zqbw oneF macF shaF strOf keyV shV pubV upF upOK pubF
theorem zq1a (b : Bool) (x y : Int) (nS nC : Nat) (Q : Option Addr -> Nat -> Option Addr -> Nat -> World -> Prop) (n J m d dm dp i kk kS kC kP : Nat) (aS aC aP : Addr) (C PP : List Nd) (v : Nd) (S Z P Z1 : Nat -> Nat -> Int) (w : World) (hT : Tabs w) (hS : K32At w (some aS) (d + 1) S) (hC : K32At w (some aC) d Z) (hP : K32At w (some aP) dm P) (hd : d <= 10) (hi : i < d) (hk : kk < dm) (hv : C[i]? = some v) (hZ1 : updR Z i (P kk) = Z1)
  (cCo : ∀ W : World, Calls Tryz.prog 217 #[.int .i64 (n : Int), .int .i64 (J : Int)] W fun e w' => ∃ oa c, e = .returned (.slice oa d c) /\ NdsAt w' oa C /\ Below W.heap.size W w')
  (cIF : ∀ (oN : Option Addr) (cN : Nat) (W : World), NdsAt W oN C -> zqe W (w.heap.size + 1) = some (.cells #[.int .i64 (m : Int)] 3) -> Calls Tryz.prog 220 #[.slice oN d cN, .func (.func 221) #[] #[.pointer (some ⟨w.heap.size + 1, 0, none⟩)]] W (Rt W (.int .i64 (i : Int))))
  (cDe : ∀ W : World, Calls Tryz.prog 214 #[.int .i64 (n : Int), .int .i64 (m : Int)] W (Rt W (.int .i64 (dm : Int))))
  (cPa : ∀ W : World, Calls Tryz.prog 224 #[.int .i64 (n : Int), .int .i64 (m : Int)] W fun e w' => ∃ oa c, e = .returned (.slice oa dp c) /\ NdsAt w' oa PP /\ Below W.heap.size W w')
  (cIx : ∀ (oN : Option Addr) (cN : Nat) (W : World), NdsAt W oN PP -> Calls Tryz.prog 223 #[.slice oN dp cN, .agg #[.int .i64 (v.f : Int), .int .i64 (v.s : Int)]] W (Rt W (.int .i64 (kk : Int))))
  (cMk : ∀ (o : Option Addr) (cc : Nat) (W : World), K32At W o d Z1 -> Tabs W -> Calls Tryz.prog 203 #[.int .i64 (n : Int), .int .i64 (J : Int), .agg (ints .u8 32 (S 0)), .slice o d cc] W fun e w' => ∃ oS kS oC kC, e = .returned (.tuple #[.agg #[.int .i64 x, .int .i64 y, .slice oS nS kS, .slice oC nC kC], .bool b]) /\ Q oS kS oC kC w' /\ Below W.heap.size W w')
  (hQ1 : ∀ a k c l W W', Q a k c l W -> Below W.heap.size W W' -> Q a k c l W')
  (hQ2 : ∀ a k c l W g cs fr (c2 : Array Value), zqe W g = some (.cells cs 293 fr) -> zqri cs -> Q a k c l W -> Q a k c l (W.setRow g c2)) :
  Calls Tryz.prog 205 #[.agg #[.int .i64 n, .int .i64 J, .slice (some aS) (d + 1) kS, .slice (some aC) d kC], .int .i64 (m : Int), .slice (some aP) dm kP] w fun e w' => ∃ oS kS oC kC, e = .returned (.tuple #[.agg #[.int .i64 x, .int .i64 y, .slice oS nS kS, .slice oC nC kC], .bool b]) /\ Q oS kS oC kC w' /\ Below w.heap.size w w' := by
 have hTT : Hid (Tabs w) := hT;have HS0 : Hid (K32At w (some aS) (d + 1) S) := hS;have HC0 : Hid (K32At w (some aC) d Z) := hC;have HP0 : Hid (K32At w (some aP) dm P) := hP;clear hT hS hC hP;have hi0 : ¬ ((i : Int) < 0) := by omega
 have hi1 : (i : Int) < (d : Int) := by omega
 have hi2 : (0 : Int) <= (i : Int) := by omega
 have hk1 : (kk : Int) < (dm : Int) := by omega
 have hk2 : (0 : Int) <= (kk : Int) := by omega
 have hd1 : (0 : Int) < (d : Int) + 1 := by omega
 have hG := Grew.refl w;have fp : True := trivial;have ff : True := trivial;have fr : True := trivial
 go_enter Tryz.func205, Tryz.ntmps205
 go_wp2_with fail;generalize hW : ((w.alloc (.cells #[.int .i64 n, .int .i64 J, .slice (some aS) (d + 1) kS, .slice (some aC) d kC] 293)).alloc (.cells #[.int .i64 (m : Int)] 3)).alloc (.cells #[.int .i64 0, .int .i64 0, .slice none 0 0, .slice none 0 0] 293) = w1;replace fp : zqe w1 (w.heap.size) = some (.cells #[.int .i64 n, .int .i64 J, .slice (some aS) (d + 1) kS, .slice (some aC) d kC] 293) := zqs hW;replace ff : zqe w1 (w.heap.size + 1) = some (.cells #[.int .i64 (m : Int)] 3) := zqs hW;replace fr : zqe w1 (w.heap.size + 1 + 1) = some (.cells #[.int .i64 0, .int .i64 0, .slice none 0 0, .slice none 0 0] 293) := zqs hW;replace hG : Below w.heap.size w w1 := zqam hW;clear hW;have lfp := zqa fp;have lff := zqa ff;have lfr := zqa fr;go_wp2_with fail;refine (cCo _).mono ?_
 rintro e w2 ⟨oN, kN, rfl, hN, hb⟩;replace fp := zqc hb fp;replace ff := zqc hb ff;replace fr := zqc hb fr;replace lfp := zqa fp;replace lff := zqa ff;replace lfr := zqa fr;replace hG := Grew.trans hG hb;have HN : Hid (NdsAt w2 oN C) := hN;clear hb hN cCo;go_wp2_with fail;refine (cIF _ _ _ HN.out ff).mono ?_
 rintro e w3 ⟨rfl, hb⟩;replace fp := zqc hb fp;replace ff := zqc hb ff;replace fr := zqc hb fr;replace HN := hid1 (HN.out.later hb);replace lfp := zqa fp;replace lff := zqa ff;replace lfr := zqa fr;replace hG := Grew.trans hG hb;clear hb;go_wp2_with fail;refine (cDe _).mono ?_
 rintro e w4 ⟨rfl, hb⟩;replace fp := zqc hb fp;replace ff := zqc hb ff;replace fr := zqc hb fr;replace HN := hid1 (HN.out.later hb);replace lfp := zqa fp;replace lff := zqa ff;replace lfr := zqa fr;replace hG := Grew.trans hG hb;clear hb;clear cIF cDe;have hGc := hG;have lfp0 := lfp;have lfr0 := lfr;go_wp2_with fail;refine (zqje aC d kC Z _ (by omega) (by omega) (HC0.out.later hG)).mono ?_
 rintro e w5 ⟨g, cap, rfl, -, hg, hR, hb⟩;replace fp := zqc hb fp;replace ff := zqc hb ff;replace fr := zqc hb fr;replace HN := hid1 (HN.out.later hb);replace lfp := zqa fp;replace lff := zqa ff;replace lfr := zqa fr;replace hG := Grew.trans hG hb;have HD : Hid (Row32 29 w5 g d Z) := hR;have hbc := hb;clear hR hb;have hcell : ∃ gC o, oN = some ⟨gC, o, none⟩ /\ gC < w5.heap.size /\ cellOf (zqe w5 gC) (o + i * 2) = some (.int .i64 v.f) /\ cellOf (zqe w5 gC) (o + i * 2 + 1) = some (.int .i64 v.s) := by
  rcases HN.out with h0 | ⟨g', o', e, hg', hl⟩
  ·subst h0; simp at hv
  ·obtain ⟨l1, l2⟩ := hl i v hv
   rw [Nat.mul_comm] at l1 l2;exact ⟨g', o', e, hg', l1, l2⟩
 obtain ⟨gC, oo, rfl, hgC, l1, l2⟩ := hcell;have lP := fun q : More => (HP0.out.later hG).loadK hk (zqo w5 q);clear HN;go_wp2_with fail;refine zqkt (fun k => k == 6) (fun k => match k with | 6 => fun u => KSl dp u | _ => fun _ => True) (fun k => match k with | 6 => fun u w => NAt dp PP u w | _ => fun _ _ => True) (fun k => match k with | 6 => .slice none dp 0 | _ => undef) (fun i hi => ?_) 15 zqb zqb zqb zqb zqb ?_
 ·simp only [Bool.or_eq_true, beq_iff_eq] at hi
  subst hi;exact ⟨none, 0, rfl⟩
 simp only [List.take_succ_cons, List.take_zero]
 iterate 6 (first | refine zqv rfl ?_ | (refine zqn rfl ?_; apply Exists.intro))
 refine zqn rfl ⟨undef, ?_⟩
 iterate 8 (first | refine zqv rfl ?_ | (refine zqn rfl ?_; apply Exists.intro))
 refine zqbt ?_
 intro γ gv hsv hinj hbase;obtain ⟨o1, k1, e1⟩ := hsv 6 rfl
 (refine zAj ?_)
 refine zqao #[.int .i64 (n : Int), .int .i64 (m : Int)] (enters_of Tryz.func224 zqb rfl) rfl e1 rfl rfl rfl rfl (zqcj (zq60 _ _ _)) (by first | kernel_rfl | simp [go_sem]) ?_ ?_
 ·intro W hC hF
  obtain ⟨mm, rfl⟩ := hC;refine (cPa _).mono ?_
  rintro e w9 ⟨oa, cc, rfl, hK, hb9⟩;exact ⟨_, rfl, ⟨oa, cc, rfl⟩, fun oa2 c2 e2 => by cases e2; exact hK, hb9⟩
 (refine zAa ?_)
 (refine zAj ?_)
 (refine zqfr ?_; rintro _ ⟨mq, rfl⟩ hF; simp only [List.forall_mem_cons] at hF; obtain ⟨-, -⟩ := hF)
 have hb : Below w5.heap.size w5 (more w5 mq) := zqo _ mq;replace fp := zqc hb fp;replace ff := zqc hb ff;replace fr := zqc hb fr;replace HD := hid1 (HD.out.later hb);replace lfp := zqa fp;replace lff := zqa ff;replace lfr := zqa fr;replace hG := Grew.trans hG hb;replace hbc := Grew.trans hbc hb;clear hb hinj hbase hsv e1 l1 l2 lP cPa cIx;generalize more w5 mq = w30 at *;clear γ gv;obtain ⟨cs, hst, hD1⟩ := Row32.store zqb HD.out hi (P kk);rw [hZ1] at hD1;have HD1 : Hid (Row32 29 (w30.setRow g cs) g d Z1) := hD1;have hb2 : Below w4.heap.size w4 (w30.setRow g cs) := Grew.setRow hbc _ _ hg;have np : True := trivial;have np0 : ¬ (w.heap.size = g) := by have := lfp0; omega
 have np2 : ¬ (w.heap.size + 1 + 1 = g) := by have := lfr0; omega
 (refine zqt (i := 15) (fuel := 0) zqb rfl ?_; intro K hK; go_simp; refine hK _ _ ?_; clear hK K)
 (refine wpAny_done zqb ?_ _)
 clear hst hD1;have hfp : zqe (w30.setRow g cs) w.heap.size = some (.cells #[.int .i64 n, .int .i64 J, .slice (some aS) (d + 1) kS, .slice (some aC) d kC] 293) := zqk _ _ fp np0;have hfr : zqe (w30.setRow g cs) (w.heap.size + 1 + 1) = some (.cells #[.int .i64 0, .int .i64 0, .slice none 0 0, .slice none 0 0] 293) := zqk _ _ fr np2;replace hG : Below w.heap.size w (w30.setRow g cs) := Grew.trans hGc hb2;clear fp ff fr lfp lff lfr HD hb2 hbc hg np np0 np2;generalize w30.setRow g cs = w31 at *;have fp := hfp;have fr := hfr;clear hfp hfr;have lfp := zqa fp;have lfr := zqa fr;have lS := fun q : More => (HS0.out.later hG).load0 (by omega) (zqo w31 q);go_wp2_with fail
 refine zqkt (fun k => k == 9) (fun k => match k with | 9 => fun u => PaS x y nS nC b u | _ => fun _ => True) (fun k => match k with | 9 => fun u w => PaAt x y nS nC b Q u w | _ => fun _ _ => True) (fun k => match k with | 9 => .tuple #[.agg #[.int .i64 x, .int .i64 y, .slice none nS 0, .slice none nC 0], .bool b] | _ => undef) (fun i hi => ?_) 12 zqb zqb zqb zqb zqb ?_
 ·simp only [Bool.or_eq_true, beq_iff_eq] at hi
  subst hi;exact ⟨none, 0, none, 0, rfl⟩
 simp only [List.take_succ_cons, List.take_zero]
 iterate 9 (first | refine zqv rfl ?_ | (refine zqn rfl ?_; apply Exists.intro))
 refine zqn rfl ⟨undef, ?_⟩
 iterate 2 (first | refine zqv rfl ?_ | (refine zqn rfl ?_; apply Exists.intro))
 refine zqbt ?_
 intro γ gv hsv hinj hbase;obtain ⟨o8, k8, o9, k9, e9⟩ := hsv 9 rfl
 (repeat (first | (refine zqx rfl ?_; (refine zAa ?_)) | ((first | refine zqm rfl (fun _ => rfl) ?_); (refine zAa ?_)) | refine zql rfl (fun _ => rfl) ?_))
 refine zqao #[.int .i64 (n : Int), .int .i64 (J : Int), .agg (ints .u8 32 (S 0)), .slice (some ⟨g, 0, none⟩) d cap] (enters_of Tryz.func203 zqb rfl) rfl e9 rfl rfl rfl rfl (zqcj (zq9m hQ1 _ _ _ _ _ _)) (by first | kernel_rfl | simp [go_sem]) ?_ ?_
 ·intro W hC hF
  obtain ⟨mm, rfl⟩ := hC;refine (cMk _ _ _ (HD1.out.k32.later (zqo _ mm)) (hTT.out.later (Grew.more hG mm))).mono ?_
  rintro e w9 ⟨oS, kS, oC, kC, rfl, hq, hb9⟩;exact ⟨_, rfl, ⟨oS, kS, oC, kC, rfl⟩, fun a b c f e2 => by cases e2; exact hq, hb9⟩
 (refine zAa ?_)
 (repeat (first | (refine zqx rfl ?_; (refine zAa ?_)) | ((first | refine zqm rfl (fun _ => rfl) ?_); (refine zAa ?_)) | refine zql rfl (fun _ => rfl) ?_))
 (refine zqfr ?_; rintro _ ⟨mq, rfl⟩ hF; simp only [List.forall_mem_cons] at hF; obtain ⟨f9, -⟩ := hF)
 have hK9 := f9 o8 k8 o9 k9 rfl;replace fr := zqp mq fr;replace hG : Below w.heap.size w (more w31 mq) := Grew.more hG mq;clear f9 hinj hbase hsv e9 lfp fp lS HD1;generalize more w31 mq = w40 at *;clear γ gv;replace lfr := zqa fr
 (refine zqt (i := 12) (fuel := 1) zqb rfl ?_; intro K hK; go_simp; refine hK _ _ ?_; clear hK K)
 (refine zqt (i := 13) (fuel := 0) zqb rfl ?_; intro K hK; go_simp; refine hK _ _ ?_; clear hK K)
 (refine wpAny_done zqb ?_ _)
 go_wp2;refine zqa2 rfl _ 293 #[.int .i64 x, .int .i64 y, .slice o8 nS k8, .slice o9 nC k9] (0, 0) _ _ rfl rfl (by exact zqh) Tryz.underlying293 rfl rfl rfl ⟨o8, k8, o9, k9, rfl, hQ2 _ _ _ _ _ _ _ _ _ fr (zqpv _ _ _ _ _ _ _ _) hK9, by exact zqf⟩
end Go.Proofs.YtfglcifnjaknnaaGreatDoor
namespace Go.Proofs.YtfglcifnjaknnaaGreatDoor
open Go.RowKit
theorem zq2r (v : Nd) (m : Nat) : v.has m ↔ ((v.f : Int) <= (m : Int) /\ (m : Int) < (v.f : Int) + (v.s : Int)) := by
 unfold Nd.has
 omega
theorem zqsm {Z P : Nat -> Nat -> Int} {n J m d dm : Nat} (h0 : 1 <= n) (hJ : J < n) (hm : m < n) (hne : m ≠ J) (hd : (zqac n J).length = d) (hdm : (zqac n m).length = dm) (hZ : ∀ i, i < d -> Bytes 32 (Z i)) (hP : ∀ i, i < dm -> Bytes 32 (P i)) (i : Nat) (hi : i < d) : Bytes 32 (zqpr Z P n J m i) := by
 obtain ⟨i0, k, v, e1, e2, e3, e4, e5, e6, e7⟩ := zqou n J m h0 hJ hm hne;rw [e7 Z P i (by omega)];unfold updR
 split
 ·exact hP k (by omega)
 ·exact hZ i hi
theorem zqo6 (n J : Nat) (h0 : 1 <= n) (hn : n <= 1024) (v : Nd) (h : v ∈ zqac n J) : v.f <= 1024 /\ v.s <= 1024 := by
 have hb := zqdp 0 n v (zqji n J v h);have := hb.2.2.2 h0
 omega
attribute [local irreducible] zqda zqbw oneF macF shaF strOf keyV shV pubV upF upOK pubF
theorem zqx7 (n J m d dm kS kC kP : Nat) (oS oC oP : Option Addr) (S Z P : Nat -> Nat -> Int) (w : World) (hT : Tabs w) (h2 : 2 <= n) (hn : n <= 1024) (hJ : J < n) (hm : m < n) (hne : m ≠ J) (hd : (zqac n J).length = d) (hdm : (zqac n m).length = dm) (hSb : Bytes 32 (S 0)) (hZb : ∀ i, i < d -> Bytes 32 (Z i)) (hPb : ∀ i, i < dm -> Bytes 32 (P i)) (hok : zqbi (S 0) (zqpr Z P n J m) d = true) (hS : K32At w oS (d + 1) S) (hC : K32At w oC d Z) (hP : K32At w oP dm P) :
  Calls Tryz.prog 205 #[.agg #[.int .i64 n, .int .i64 J, .slice oS (d + 1) kS, .slice oC d kC], .int .i64 (m : Int), .slice oP dm kP] w fun e w' => ∃ oS cS gC cC, e = .returned (.tuple #[.agg #[.int .i64 n, .int .i64 J, .slice oS (d + 1) cS, .slice (some ⟨gC, 0, none⟩) d cC], .bool true]) /\ SecAt w' oS (d + 1) (zqb2 (S 0) (zqpr Z P n J m)) /\ Row32 29 w' gC d (zqpr Z P n J m) /\ Below w.heap.size w w' := by
 have h1 : 1 <= n := by omega
 obtain ⟨i, k, v, e1, e2, e3, e4, e5, e6, e7⟩ := zqou n J m h1 hJ hm hne;have hi : i < d := by have := (List.getElem?_eq_some_iff.1 e1).1; omega
 have hd10 : d <= 10 := by rw [<- hd]; exact zqe5 n J hn
 have hdm10 : dm <= 10 := by rw [<- hdm]; exact zqe5 n m hn
 have hk : k < dm := by omega
 obtain ⟨aS, rfl⟩ := hS.addr (by omega);obtain ⟨aC, rfl⟩ := hC.addr (by omega);obtain ⟨aP, rfl⟩ := hP.addr (by omega);have hcg : ∀ x, x < d -> updR Z i (P k) x = zqpr Z P n J m x := fun x hx => (e7 Z P x (by omega)).symm;have hZ1 : ∀ x, x < d -> Bytes 32 (updR Z i (P k) x) := fun x hx => by
  rw [hcg x hx];exact zqsm h1 hJ hm hne hd hdm hZb hPb x hx
 have cCo : ∀ W : World, Calls Tryz.prog 217 #[.int .i64 (n : Int), .int .i64 (J : Int)] W fun e w' => ∃ oa c, e = .returned (.slice oa d c) /\ NdsAt w' oa (zqac n J) /\ Below W.heap.size W w' := fun W => by
  have := zqly (n : Int) (J : Int) W (by omega) (by omega);rw [zqcy h1 hn hJ] at this;exact this.mono fun e w' ⟨oa, c, a, b, hb⟩ => ⟨oa, c, by rw [a, hd], b, hb⟩
 have cIF := fun (oN : Option Addr) (cN : Nat) (W : World) (h : NdsAt W oN (zqac n J)) (h2 : zqe W (w.heap.size + 1) = some (.cells #[.int .i64 (m : Int)] 3)) => zq9b (zqac n J) oN cN (m : Int) _ W (by omega) h (fun v hv => zqo6 n J h1 hn v hv) (by omega) (by omega) h2;rw [zqq5 (zqac n J) 0 i v e1 ((zq2r v m).1 e4) fun i' v' h' hv' => e5 i' v' h' ((zq2r v' m).2 hv'), Nat.zero_add, hd] at cIF;have cDe : ∀ W : World, Calls Tryz.prog 214 #[.int .i64 (n : Int), .int .i64 (m : Int)] W (Rt W (.int .i64 (dm : Int))) := fun W => by
  have := zqm9 (n : Int) (m : Int) W (by omega) (by omega);rw [if_pos (by omega), zqh3 h1 hn hm, zqdm, hdm, show (((dm + 1 : Nat) : Int) - 1) = (dm : Int) by omega] at this;exact this
 have cPa : ∀ W : World, Calls Tryz.prog 224 #[.int .i64 (n : Int), .int .i64 (m : Int)] W fun e w' => ∃ oa c, e = .returned (.slice oa (dm + 1) c) /\ NdsAt w' oa (zqdy n m) /\ Below W.heap.size W w' := fun W => by
  have := zqrb (n : Int) (m : Int) W (by omega) (by omega);rw [zqh3 h1 hn hm] at this;exact this.mono fun e w' ⟨oa, c, a, _, b, hb⟩ => ⟨oa, c, by rw [a, zqdm, hdm], b, hb⟩
 have cIx := fun (oN : Option Addr) (cN : Nat) (W : World) (h : NdsAt W oN (zqdy n m)) => zq9o (zqdy n m) oN cN v.f v.s W (by rw [zqdm]; omega) h;rw [e6, zqdm, hdm] at cIx;have hok' : zqbi (S 0) (updR Z i (P k)) d = true := by rw [(zqhx d hcg).2]; exact hok
 refine (zq1a true n J (d + 1) d (fun oS _ oC _ W => SecAt W oS (d + 1) (zqb2 (S 0) (updR Z i (P k))) /\ ∃ g, oC = some ⟨g, 0, none⟩ /\ Row32 29 W g d (updR Z i (P k))) n J m d dm (dm + 1) i k kS kC kP aS aC aP (zqac n J) (zqdy n m) v S Z P (updR Z i (P k)) w hT hS hC hP hd10 hi hk e1 rfl cCo cIF cDe cPa cIx
  (fun o cc W h hT => (zqm5 (S 0) _ o n J d cc W h2 hn hJ hd hSb hZ1 hok' h hT).mono fun e w' ⟨oS, cS, gC, cC, a, b, c, hb⟩ => ⟨oS, cS, _, cC, a, ⟨b, gC, rfl, c⟩, hb⟩)
  (fun _ _ _ _ _ _ ⟨a, g, e, b⟩ hb => ⟨a.later hb, g, e, b.later hb⟩)
  (fun _ _ _ _ _ _ _ _ _ hr hn ⟨a, g, e, b⟩ => ⟨a.put hr _, g, e, b.by (zq1 _ _ _ _ (zqhb hr b))⟩)).mono ?_
 rintro e w' ⟨oS, cS, _, cC, rfl, ⟨a, gC, rfl, b⟩, hb⟩;exact ⟨oS, cS, gC, cC, rfl, ⟨a.1.congr fun j hj => (zqhx j fun x hx => hcg x (by omega)).1, a.2⟩, b.congr hcg, hb⟩
end Go.Proofs.YtfglcifnjaknnaaGreatDoor
