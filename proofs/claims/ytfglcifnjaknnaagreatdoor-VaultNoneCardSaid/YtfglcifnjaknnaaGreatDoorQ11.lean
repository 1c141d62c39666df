/- Q11 -/
import Derived.Test.YtfglcifnjaknnaaGreatDoorRel
import Derived.Test.YtfglcifnjaknnaaGreatDoorMem
import Derived.Test.YtfglcifnjaknnaaGreatDoorR11
import Derived.Test.YtfglcifnjaknnaaGreatDoorL11
import Derived.Shelf.Small.Bits
import Derived.Shelf.SlicesQ.Reverse
import Derived.Deep.RegionHeld3
import Derived.Lib.OwnBridge
set_option linter.unusedVariables false
set_option linter.unusedSimpArgs false
set_option maxRecDepth 100000
set_option maxHeartbeats 4000000
namespace Go.Proofs.YtfglcifnjaknnaaGreatDoor
open Go.RowKit
theorem setRow_self {w : World} {g : Nat} {o : Array Value} {t : TypeId} {fr : Nat × Nat} (h : zqe w g = some (.cells o t fr)) : w.setRow g o = w := by
 unfold World.setRow
 cases w
 congr 1
 apply Array.ext_getElem?
 intro k;rw [Array.getElem?_modify]
 by_cases hk : g = k
 ·subst hk; rw [if_pos rfl]; unfold zqe at h; simp only at h; rw [h]; rfl
 ·rw [if_neg hk]
theorem zqro (w : World) {g g' : Nat} (c c' : Array Value) (h : g ≠ g') : (w.setRow g c).setRow g' c' = (w.setRow g' c').setRow g c := by
 unfold World.setRow
 congr 1
 apply Array.ext_getElem?
 intro k
 simp only [Array.getElem?_modify]
 by_cases h1 : g = k
 ·subst h1; rw [if_neg (fun e => h e.symm), if_pos rfl, if_pos rfl, if_neg (fun e => h e.symm)]
 ·simp [h1]
structure Three where
 m : More
 c : Array Value
 c' : Array Value
instance : Inhabited Three := ⟨⟨⟨0, #[]⟩, #[], #[]⟩⟩
def Two (w : World) (g g' n n' : Nat) (w' : World) : Prop := ∃ m c c', c.size = n /\ c'.size = n' /\ w' = more ((w.setRow g c).setRow g' c') m
section
variable {P : Program} {md : Region.Mode} {ops : Array Oper} {V : Vals} {γ : Nat -> Nat} {Q : Exit -> Act -> World -> Prop}
theorem zrbc {w W : World} {g g' n n' : Nat} {t : TypeId} {o : Array Value} (hg : zqe w g = some (.cells o t)) (hne : g ≠ g') (h : Two w g g' n n' W) : Hdr g n t W := by
 obtain ⟨m, c, c', h1, h2, rfl⟩ := h;refine ⟨c, ?_, h1⟩;refine zqp m ?_
 rw [zq1 _ _ _ _ hne];exact zqau c hg
theorem zq68 {w W : World} {g g' n n' : Nat} {t : TypeId} {o : Array Value} (hg : zqe w g' = some (.cells o t)) (hne : g ≠ g') (h : Two w g g' n n' W) : Hdr g' n' t W := by
 obtain ⟨m, c, c', h1, h2, rfl⟩ := h;have e : zqe (w.setRow g c) g' = some (.cells o t) := (zq1 _ _ _ _ (fun e => hne e.symm)).trans hg;exact ⟨c', zqp m (zqau c' e), h2⟩
theorem zqgk {C : World -> Prop} {k : Nat} {ty : TypeId} {x y : Operand} {t : TypeId} {pos : String} {af : Array Edge} {gd : Option (Nat × Bool)} {rest : List Oper} {F : List Known} {a : Act} {g n : Nat} {te : TypeId} {v : Value} {cs : Array Value}
  (hH : ∀ W, C W -> Hdr g n te W) (hCs : ∀ W cs, C W -> cs.size = n -> C (W.setRow g cs)) (hw : Region.wanted ⟨none, .store ty x y, t, pos, af, gd⟩ (yielded ops a.tmps) = true)
  (hx : a.eval x = .pointer (some ⟨g, 0, none⟩)) (hy : a.eval y = v) (hcs : v.cells = cs) (hi : (P.info? ty).map (·.size) = some n) (hn : cs.size = n) (h1 : cs.all (·.oneCell') = true)
  (hf : Fits (some ⟨k, Full g cs te, some (g, te)⟩) F)
  (next : zqbx P md ops C V γ Q (k + 1) rest (⟨k, Full g cs te, some (g, te)⟩ :: F) a) :
  zqbx P md ops C V γ Q k (⟨none, .store ty x y, t, pos, af, gd⟩ :: rest) F a := by
 refine ⟨undef, some ⟨k, Full g cs te, some (g, te)⟩, .inl ⟨hw, (fun h => by cases h), (fun x hx => by cases hx; rfl), hf, fun w hC hF _ => ?_⟩, next⟩;obtain ⟨old, ho, hs⟩ := hH w hC;have hrun : (execOp a.eval ⟨none, .store ty x y, t, pos, af, gd⟩).run P w = .ok .skip (w.setRow g cs) := by
  unfold execOp;subst hcs;subst hy
  simp only [hx, Instr.storeAt, Instr.sureAddr, Sem.run_bind, Sem.run_pure, Result.andThen_ok, zqgc w g te ty old _ ho (by rw [hi, hn]) (by omega) h1]
 rw [hrun];refine ⟨rfl, hCs _ _ hC hn, ⟨old, cs, te, ho, ⟨by omega, rfl⟩, rfl⟩, fun x hx => ?_, fun h => by cases h⟩
 cases hx
 exact zqau cs ho
theorem zq9v {w : World} {g g' n n' : Nat} (hne : g ≠ g') (W : World) (cs : Array Value) (h : Two w g g' n n' W) (hs : cs.size = n) (hg : g < w.heap.size) : Two w g g' n n' (W.setRow g cs) := by
 obtain ⟨m, c, c', h1, h2, rfl⟩ := h;refine ⟨m, cs, c', hs, h2, ?_⟩;rw [zqf5 _ _ _ _ (by rw [zq0, zq0]; exact hg), zqro (w.setRow g c) _ _ (fun e => hne e.symm), setRow_setRow]
theorem zq48 {w : World} {g g' n n' : Nat} (W : World) (cs : Array Value) (h : Two w g g' n n' W) (hs : cs.size = n') (hg : g' < w.heap.size) : Two w g g' n n' (W.setRow g' cs) := by
 obtain ⟨m, c, c', h1, h2, rfl⟩ := h;refine ⟨m, c, cs, h1, hs, ?_⟩;rw [zqf5 _ _ _ _ (by rw [zq0, zq0]; exact hg), setRow_setRow]
theorem zqth {w : World} {g g' n n' : Nat} {k : Nat} {ty : TypeId} {x y : Operand} {t : TypeId} {pos : String} {af : Array Edge} {gd : Option (Nat × Bool)} {rest : List Oper} {F : List Known} {a : Act} {te : TypeId} {v : Value} {cs o : Array Value}
  (hg : zqe w g = some (.cells o te)) (hne : g ≠ g') (hw : Region.wanted ⟨none, .store ty x y, t, pos, af, gd⟩ (yielded ops a.tmps) = true)
  (hx : a.eval x = .pointer (some ⟨g, 0, none⟩)) (hy : a.eval y = v) (hcs : v.cells = cs) (hi : (P.info? ty).map (·.size) = some n) (hn : cs.size = n) (h1 : cs.all (·.oneCell') = true)
  (hf : Fits (some ⟨k, Full g cs te, some (g, te)⟩) F)
  (next : zqbx P md ops (Two w g g' n n') V γ Q (k + 1) rest (⟨k, Full g cs te, some (g, te)⟩ :: F) a) :
  zqbx P md ops (Two w g g' n n') V γ Q k (⟨none, .store ty x y, t, pos, af, gd⟩ :: rest) F a :=
 zqgk (fun W h => zrbc hg hne h) (fun W cs h hs => zq9v hne W cs h hs (zqa hg)) hw hx hy hcs hi hn h1 hf next
theorem zqtf {w : World} {g g' n n' : Nat} {k : Nat} {ty : TypeId} {x y : Operand} {t : TypeId} {pos : String} {af : Array Edge} {gd : Option (Nat × Bool)} {rest : List Oper} {F : List Known} {a : Act} {te : TypeId} {v : Value} {cs o : Array Value}
  (hg : zqe w g' = some (.cells o te)) (hne : g ≠ g') (hw : Region.wanted ⟨none, .store ty x y, t, pos, af, gd⟩ (yielded ops a.tmps) = true)
  (hx : a.eval x = .pointer (some ⟨g', 0, none⟩)) (hy : a.eval y = v) (hcs : v.cells = cs) (hi : (P.info? ty).map (·.size) = some n') (hn : cs.size = n') (h1 : cs.all (·.oneCell') = true)
  (hf : Fits (some ⟨k, Full g' cs te, some (g', te)⟩) F)
  (next : zqbx P md ops (Two w g g' n n') V γ Q (k + 1) rest (⟨k, Full g' cs te, some (g', te)⟩ :: F) a) :
  zqbx P md ops (Two w g g' n n') V γ Q k (⟨none, .store ty x y, t, pos, af, gd⟩ :: rest) F a :=
 zqgk (fun W h => zq68 hg hne h) (fun W cs h hs => zq48 W cs h hs (zqa hg)) hw hx hy hcs hi hn h1 hf next
theorem zqww {w : World} {g g' n n' : Nat} {k : Nat} {o : Oper} {rest : List Oper} {F : List Known} {a : Act} (hp : plain o = true)
  (h : wpQuiet P ops (fun w' => ∃ z : Three, w' = more ((w.setRow g z.c).setRow g' z.c') z.m) (fun a' => zqbx P md ops (Two w g g' n n') V γ Q (k + 1) rest F a') [o] a) : zqbx P md ops (Two w g g' n n') V γ Q k (o :: rest) F a := by
 simp only [wpQuiet] at h
 by_cases hw : Region.wanted o (yielded ops a.tmps) = true
 ·rw [if_pos hw] at h
  obtain ⟨v, h1, h2⟩ := h;exact ⟨v, none, .inl ⟨hw, zqe1 hp fun w ⟨m, c, c', _, _, e⟩ _ => ⟨_, h1 w ⟨⟨m, c, c'⟩, e⟩⟩⟩, h2⟩
 ·rw [if_neg hw] at h
  exact ⟨undef, none, .inr ⟨by simpa using hw, rfl, rfl⟩, h⟩
theorem zrag {id : Nat} {a : Act} {w : World} {l : List Oper} {t t' : TypeId} {o o' : Array Value} (g g' : Nat) (hg : zqe w g = some (.cells o t)) (hg' : zqe w g' = some (.cells o' t')) (hm : P.follows .mixedOrders = true) (hB : Region.lexB .any l.toArray = true)
  (h : ∀ γ : Nat -> Nat, zqbx P .any l.toArray (Two w g g' o.size o'.size) ⟨fun _ => undef, fun _ => false, fun _ _ => True, fun _ _ _ => True⟩ γ Q 0 l [] a) : (Code.region id l.toArray true).wp P Q a w := by
 refine zqeg (V := ⟨fun _ => undef, fun _ => false, fun _ _ => True, fun _ _ _ => True⟩) (Two w g g' o.size o'.size) w.heap.size hm hB (fun W W' ⟨m, c, c', h1, h2, e⟩ hb => ?_) (fun W ⟨m, c, c', h1, h2, e⟩ => ?_) ⟨⟨w.drawn + 1, #[]⟩, o, o', rfl, rfl, ?_⟩ (fun i hi => by cases hi) (fun γ g hg _ _ _ => by rw [show g = fun _ => undef from funext fun i => hg i rfl]; exact h γ)
 ·subst e
  obtain ⟨m', rfl⟩ := zqj4 hb;exact ⟨m', c, c', h1, h2, rfl⟩
 ·subst e
  have := zqck ((w.setRow g c).setRow g' c') m;rw [zq0, zq0] at this;exact this
 ·rw [setRow_self hg, setRow_self hg']
  simp [more]
theorem zq5d {w : World} {g g' n n' k : Nat} {F : List Known} {a : Act} {t t' : TypeId} {cs cs' : Array Value} (h1 : ⟨n, Full g cs t, some (g, t)⟩ ∈ F) (h2 : ⟨n', Full g' cs' t', some (g', t')⟩ ∈ F) {p p' : Nat}
  (h : ∀ m, Q .normal a (more ((w.setRow g cs).setRow g' cs') m)) (hne : g ≠ g') {o o' : Array Value} (hg : zqe w g = some (.cells o t)) (hg' : zqe w g' = some (.cells o' t')) : zqbx P md ops (Two w g g' p p') V γ Q k [] F a := by
 refine zqce fun W hC hF => ?_
 obtain ⟨m, c, c', _, _, rfl⟩ := hC;have e1 : zqe (more ((w.setRow g c).setRow g' c') m) g = _ := hF _ h1;have e2 : zqe (more ((w.setRow g c).setRow g' c') m) g' = _ := hF _ h2;have lg := zqa hg;have lg' := zqa hg';rw [zqhg _ _ _ (by rw [zq0, zq0]; exact lg), zq1 _ _ _ _ hne, zqau c hg] at e1;rw [zqhg _ _ _ (by rw [zq0, zq0]; exact lg'), zqau c' (by rw [zq1 _ _ _ _ (fun e => hne e.symm)]; exact hg')] at e2
 cases e1
 cases e2
 exact h m
def One (w : World) (g n : Nat) (w' : World) : Prop := ∃ m c, c.size = n /\ w' = more (w.setRow g c) m
structure OneZ where
 m : More
 c : Array Value
instance : Inhabited OneZ := ⟨⟨⟨0, #[]⟩, #[]⟩⟩
theorem zqs3 {w : World} {g n : Nat} {k : Nat} {ty : TypeId} {x y : Operand} {t : TypeId} {pos : String} {af : Array Edge} {gd : Option (Nat × Bool)} {rest : List Oper} {F : List Known} {a : Act} {te : TypeId} {v : Value} {cs o : Array Value}
  (hg : zqe w g = some (.cells o te)) (hw : Region.wanted ⟨none, .store ty x y, t, pos, af, gd⟩ (yielded ops a.tmps) = true)
  (hx : a.eval x = .pointer (some ⟨g, 0, none⟩)) (hy : a.eval y = v) (hcs : v.cells = cs) (hi : (P.info? ty).map (·.size) = some n) (hn : cs.size = n) (h1 : cs.all (·.oneCell') = true)
  (hf : Fits (some ⟨k, Full g cs te, some (g, te)⟩) F)
  (next : zqbx P md ops (One w g n) V γ Q (k + 1) rest (⟨k, Full g cs te, some (g, te)⟩ :: F) a) :
  zqbx P md ops (One w g n) V γ Q k (⟨none, .store ty x y, t, pos, af, gd⟩ :: rest) F a :=
 zqgk (fun W ⟨m, c, h1, e⟩ => by subst e; exact ⟨c, zqp m (zqau c hg), h1⟩) (fun W cs ⟨m, c, h1, e⟩ hs => ⟨m, cs, hs, by subst e; rw [zqf5 _ _ _ _ (by rw [zq0]; exact zqa hg), setRow_setRow]⟩) hw hx hy hcs hi hn h1 hf next
theorem zqny {w : World} {g n : Nat} {k : Nat} {o : Oper} {rest : List Oper} {F : List Known} {a : Act} (hp : plain o = true)
  (h : wpQuiet P ops (fun w' => ∃ z : OneZ, w' = more (w.setRow g z.c) z.m) (fun a' => zqbx P md ops (One w g n) V γ Q (k + 1) rest F a') [o] a) : zqbx P md ops (One w g n) V γ Q k (o :: rest) F a := by
 simp only [wpQuiet] at h
 by_cases hw : Region.wanted o (yielded ops a.tmps) = true
 ·rw [if_pos hw] at h
  obtain ⟨v, h1, h2⟩ := h;exact ⟨v, none, .inl ⟨hw, zqe1 hp fun w ⟨m, c, _, e⟩ _ => ⟨_, h1 w ⟨⟨m, c⟩, e⟩⟩⟩, h2⟩
 ·rw [if_neg hw] at h
  exact ⟨undef, none, .inr ⟨by simpa using hw, rfl, rfl⟩, h⟩
theorem zq87 {id : Nat} {a : Act} {w : World} {l : List Oper} {t : TypeId} {o : Array Value} (g : Nat) (hg : zqe w g = some (.cells o t)) (hm : P.follows .mixedOrders = true) (hB : Region.lexB .any l.toArray = true)
  (h : ∀ γ : Nat -> Nat, zqbx P .any l.toArray (One w g o.size) ⟨fun _ => undef, fun _ => false, fun _ _ => True, fun _ _ _ => True⟩ γ Q 0 l [] a) : (Code.region id l.toArray true).wp P Q a w := by
 refine zqeg (V := ⟨fun _ => undef, fun _ => false, fun _ _ => True, fun _ _ _ => True⟩) (One w g o.size) w.heap.size hm hB (fun W W' ⟨m, c, h1, e⟩ hb => ?_) (fun W ⟨m, c, h1, e⟩ => ?_) ⟨⟨w.drawn + 1, #[]⟩, o, rfl, ?_⟩ (fun i hi => by cases hi) (fun γ g hg _ _ _ => by rw [show g = fun _ => undef from funext fun i => hg i rfl]; exact h γ)
 ·subst e
  obtain ⟨m', rfl⟩ := zqj4 hb;exact ⟨m', c, h1, rfl⟩
 ·subst e
  have := zqck (w.setRow g c) m;rw [zq0] at this;exact this
 ·rw [setRow_self hg]
  simp [more]
theorem zq41 {w : World} {g n k : Nat} {F : List Known} {a : Act} {t : TypeId} {cs : Array Value} (h1 : ⟨n, Full g cs t, some (g, t)⟩ ∈ F) {p : Nat}
  (h : ∀ m, Q .normal a (more (w.setRow g cs) m)) {o : Array Value} (hg : zqe w g = some (.cells o t)) : zqbx P md ops (One w g p) V γ Q k [] F a := by
 refine zqce fun W hC hF => ?_
 obtain ⟨m, c, _, rfl⟩ := hC;have e1 : zqe (more (w.setRow g c) m) g = _ := hF _ h1;rw [zqhg _ _ _ (by rw [zq0]; exact zqa hg), zqau c hg] at e1
 cases e1
 exact h m
end
end Go.Proofs.YtfglcifnjaknnaaGreatDoor
namespace Go.Proofs.YtfglcifnjaknnaaGreatDoor
theorem zqo5 {f s : Int} : ∀ (m : List Nd) (k : Nat), (∀ v ∈ m, ¬ ((v.f : Int) = f /\ (v.s : Int) = s)) -> idxI f s m k = -1
 | [], k, h => rfl
 | u :: m, k, h => by
  rw [idxI, if_neg (h u (List.mem_cons_self ..))];exact zqo5 m _ fun v hv => h v (List.mem_cons_of_mem _ hv)
theorem zqvc {f s : Int} {m : List Nd} (h : ∀ v ∈ m, ¬ ((v.f : Int) = f /\ (v.s : Int) = s)) : ∀ (l : List Nd) (k : Nat), idxI f s (l ++ m) k = idxI f s l k
 | [], k => by rw [List.nil_append, zqo5 m k h]; rfl
 | u :: l, k => by
  rw [List.cons_append, idxI, idxI]
  split
  ·rfl
  ·exact zqvc h l _
theorem zqq2 {f s : Int} {m : List Nd} : ∀ (l : List Nd) (k : Nat), (∀ v ∈ l, ¬ ((v.f : Int) = f /\ (v.s : Int) = s)) -> idxI f s (l ++ m) k = idxI f s m (k + l.length)
 | [], k, h => by rw [List.nil_append, List.length_nil, Nat.add_zero]
 | u :: l, k, h => by
  rw [List.cons_append, idxI, if_neg (h u (List.mem_cons_self ..)), zqq2 l _ fun v hv => h v (List.mem_cons_of_mem _ hv), List.length_cons, show k + 1 + l.length = k + (l.length + 1) by omega]
theorem zq6g {f s : Int} {F S k : Nat} (h : (F : Int) = f /\ (S : Int) = s) : idxI f s (zqae F S) k = (k : Int) := by
 by_cases h2 : S < 2
 ·rw [zqbl h2, idxI, if_pos h]
 ·rw [zqa9 (by omega), idxI, if_pos h]
theorem zq9h {f s : Int} {F k : Nat} (h : ¬ ((F : Int) = f /\ ((1 : Nat) : Int) = s)) : idxI f s (zqae F 1) k = -1 := by
 rw [zqbl (by decide), idxI, if_neg h]; rfl
theorem zq45 {f s : Int} {F S k : Nat} (h : 2 <= S) (hn : ¬ ((F : Int) = f /\ (S : Int) = s)) (hl : (F : Int) <= f /\ f < (F : Int) + (zqw S : Nat)) : idxI f s (zqae F S) k = idxI f s (zqae F (zqw S)) (k + 1) := by
 rw [zqa9 h, idxI, if_neg hn];refine zqvc (fun v hv e => ?_) _ _;have := zqdp _ _ v hv
 omega
theorem zq5z {f s : Int} {F S k : Nat} (h : 2 <= S) (hn : ¬ ((F : Int) = f /\ (S : Int) = s)) (hl : ¬ ((F : Int) <= f /\ f < (F : Int) + (zqw S : Nat))) : idxI f s (zqae F S) k = idxI f s (zqae (F + zqw S) (S - zqw S)) (k + 2 * zqw S) := by
 have hb := zqb8 h;rw [zqa9 h, idxI, if_neg hn, zqq2 _ _ fun v hv e => ?_, zqcb _ _ (by omega), show k + 1 + (2 * zqw S - 1) = k + 2 * zqw S by omega];have := zqdp _ _ v hv;have := this.2.2.2 (by omega)
 omega
end Go.Proofs.YtfglcifnjaknnaaGreatDoor
namespace Go.Proofs.YtfglcifnjaknnaaGreatDoor
open Go.RowKit
theorem zqgn (n : Int) (w : World) :
  Calls Tryz.prog 226 #[.int .i64 n] w (Rt w (.bool (decide (1 <= n /\ n <= 1024)))) := by
 have hG := Grew.refl w
 by_cases h1 : 1 <= n
 ·by_cases h2 : n <= 1024
  ·rw [decide_eq_true ⟨h1, h2⟩]
   go_enter Tryz.func226, Tryz.ntmps226
   go_wp2;go_ret;exact ⟨rfl, by exact zqf⟩
  ·rw [decide_eq_false (fun h => h2 h.2)]
   go_enter Tryz.func226, Tryz.ntmps226
   go_wp2;go_ret;exact ⟨rfl, by exact zqf⟩
 ·rw [decide_eq_false (fun h => h1 h.1)]
  go_enter Tryz.func226, Tryz.ntmps226
  go_wp2;go_ret;exact ⟨rfl, by exact zqf⟩
theorem zq2a {x k : Nat} (h : 2 ^ k <= x) : Nat.log2 x = Nat.log2 (x / 2 ^ k) + k := by
 have hp : 0 < 2 ^ k := Nat.two_pow_pos k;have h1 : 1 <= x / 2 ^ k := (Nat.one_le_div_iff hp).2 h;have e : Nat.log2 (x / 2 ^ k) + k = Nat.log2 x := by
  have a1 := Nat.log2_self_le (n := x / 2 ^ k) (by omega);have a2 := Nat.lt_log2_self (n := x / 2 ^ k);have b1 : 2 ^ (Nat.log2 (x / 2 ^ k) + k) <= x := by
   rw [Nat.pow_add];exact Nat.le_trans (Nat.mul_le_mul_right _ a1) (Nat.div_mul_le_self x _)
  have b2 : x < 2 ^ (Nat.log2 (x / 2 ^ k) + k + 1) := by
   rw [show Nat.log2 (x / 2 ^ k) + k + 1 = (Nat.log2 (x / 2 ^ k) + 1) + k by omega, Nat.pow_add];exact (Nat.div_lt_iff_lt_mul hp).1 a2
  exact ((Nat.log2_eq_iff (by omega)).2 ⟨b1, b2⟩).symm
 omega
def zrf8 : Go.Shelf.Ren := ⟨fun | 125 => 73 | 128 => 100 | 129 => 101 | n => n, fun | 46 => 151 | 3 => 3 | 51 => 23 | 53 => 134 | 4 => 4 | 5 => 5 | 9 => 9 | n => n, fun | n => n⟩
theorem zrd3 : Go.Proofs.Lays.n125 Tryz.prog zrf8 := {
 mixed := by kernel_rfl
 f125 := Tryz.func73.trans (congrArg some zqb)
 f128 := Tryz.func100.trans (congrArg some zqb)
 f129 := Tryz.func101.trans (congrArg some zqb)
 t3 := Tryz.underlying3
 a3 := Tryz.isAgg3
 z3 := Tryz.sizeOf3
 v3 := Tryz.zeroValue3
 t4 := Tryz.underlying4
 a4 := Tryz.isAgg4
 z4 := Tryz.sizeOf4
 v4 := Tryz.zeroValue4
 t5 := Tryz.underlying5
 a5 := Tryz.isAgg5
 z5 := Tryz.sizeOf5
 v5 := Tryz.zeroValue5
 t9 := Tryz.underlying9
 a9 := Tryz.isAgg9
 z9 := Tryz.sizeOf9
 v9 := Tryz.zeroValue9
 t46 := Tryz.underlying151
 a46 := Tryz.isAgg151
 z46 := Tryz.sizeOf151
 v46 := Tryz.zeroValue151
 t51 := Tryz.underlying23
 a51 := Tryz.isAgg23
 z51 := Tryz.sizeOf23
 v51 := Tryz.zeroValue23
 t53 := Tryz.underlying134
 a53 := Tryz.isAgg134
 z53 := Tryz.sizeOf134
 v53 := Tryz.zeroValue134 }
def zrge : Go.Shelf.Ren := ⟨fun | 35 => 236 | n => n, fun | 22 => 298 | 23 => 304 | 3 => 3 | 4 => 4 | n => n, fun | n => n⟩
theorem zq7v : Go.Proofs.SlLaysE0.n35 Tryz.prog zrge := {
 mixed := by kernel_rfl
 f35 := ⟨"slices.Reverse[[]sapwood/shape.Node,sapwood/shape.Node]", by decide, Tryz.func236.trans (congrArg some zqb)⟩
 t0 := by kernel_rfl
 a0 := fun _ => by kernel_rfl
 z0 := fun _ => by kernel_rfl
 v0 := fun _ => by kernel_rfl
 t3 := Tryz.underlying3
 a3 := Tryz.isAgg3
 z3 := Tryz.sizeOf3
 v3 := Tryz.zeroValue3
 t4 := Tryz.underlying4
 a4 := Tryz.isAgg4
 z4 := Tryz.sizeOf4
 v4 := Tryz.zeroValue4
 t22 := Tryz.underlying298
 a22 := Tryz.isAgg298
 z22 := Tryz.sizeOf298
 v22 := Tryz.zeroValue298 }
theorem zqie : ∀ (f x : Nat), 0 < x -> x < 2 ^ f -> Lib.bitLenAux f x = Nat.log2 x + 1
 | 0, x, h0, h => by rw [Nat.pow_zero] at h; omega
 | f + 1, x, h0, h => by
  rw [Lib.bitLenAux, if_neg (by omega)]
  by_cases h1 : x = 1
  ·subst h1
   have : Lib.bitLenAux f 0 = 0 := by cases f <;> simp [Lib.bitLenAux]
   show 1 + Lib.bitLenAux f (1 / 2) = _
   rw [show 1 / 2 = 0 by decide, this]; rfl
  ·rw [zqie f (x / 2) (by omega) (by rw [Nat.pow_succ] at h; omega), zq2a (x := x) (k := 1) (by omega), Nat.pow_one]
   omega
theorem zqtw {n : Nat} (h : 2 <= n) (h2 : n <= 2 ^ 40) : ∃ j, Lib.bitLen (n - 1) = j + 1 /\ zqw n = 2 ^ j /\ j <= 40 := by
 refine ⟨Nat.log2 (n - 1), zqie 64 (n - 1) (by omega) (by omega), by unfold zqw; rw [if_neg (by omega)], ?_⟩;have h3 : 2 ^ Nat.log2 (n - 1) <= n - 1 := Nat.log2_self_le (by omega);have h4 : 2 ^ Nat.log2 (n - 1) < 2 ^ 40 := by omega
 have := (Nat.pow_lt_pow_iff_right (a := 2) (by decide)).1 h4
 omega
theorem zqqc (n : Int) (w : World) (hn : n <= 1099511627776) :
  Calls Tryz.prog 212 #[.int .i64 n] w (Rt w (.int .i64 (zqw n.toNat : Nat))) := by
 have hG := Grew.refl w
 by_cases h2 : n < 2
 case pos =>
  rw [zq0g (by omega : n.toNat < 2)]
  go_enter Tryz.func212, Tryz.ntmps212
  go_wp2;go_ret;exact ⟨rfl, by exact zqf⟩
 obtain ⟨N, rfl⟩ := Int.eq_ofNat_of_zero_le (show 0 <= n by omega);rw [show ((N : Int)).toNat = N by omega];obtain ⟨j, e1, e2, e3⟩ := zqtw (n := N) (by omega) (by omega);have hp : (2 ^ j : Nat) <= 2 ^ 40 := Nat.pow_le_pow_right (by decide) e3;rw [e2];clear e2
 go_enter Tryz.func212, Tryz.ntmps212
 go_wp2_with fail;refine (Any.bits_Len zrd3 ((N : Int) - 1) _ (by omega) (by omega)).mono ?_
 rintro e w1 ⟨rfl, rfl⟩;rw [show ((N : Int) - 1).toNat = N - 1 by omega, e1];clear e1;have hj : ((j + 1 : Nat) : Int) - 1 = (j : Int) := by omega
 have ew : wrap64 ((2 : Int) ^ j) = ((2 ^ j : Nat) : Int) := by
  have hc : ((2 : Int) ^ j) = ((2 ^ j : Nat) : Int) := by simp
  rw [hc];generalize 2 ^ j = k at hp ⊢;unfold wrap64
  omega
 go_wp2;go_ret;exact ⟨congrArg (fun x => Ending.returned (Value.int IntKind.i64 x)) ew, hG⟩
theorem zqin (f s : Nat) (j : Int) (w : World) (hf : f <= 2199023255552) (hs : s <= 2199023255552) (hj0 : -9223372036854775808 <= j) (hj1 : j <= 9223372036854775807) :
  Calls Tryz.prog 222 #[.agg #[.int .i64 (f : Int), .int .i64 (s : Int)], .int .i64 j] w (Rt w (.bool (decide ((f : Int) <= j /\ j < (f : Int) + (s : Int))))) := by
 have hG := Grew.refl w
 by_cases h0 : 0 < s
 ·have hs0 : (0 : Int) < (s : Int) := by omega
  by_cases h1 : (f : Int) <= j
  ·have h3 : (0 : Int) <= j - (f : Int) := by omega
   by_cases h2 : j < (f : Int) + (s : Int)
   ·rw [decide_eq_true ⟨h1, h2⟩]
    have h4 : j - (f : Int) < (s : Int) := by omega
    go_enter Tryz.func222, Tryz.ntmps222
    go_wp2;go_ret;exact ⟨rfl, by exact zqf⟩
   ·rw [decide_eq_false (fun h => h2 h.2)]
    have h4 : ¬ (j - (f : Int) < (s : Int)) := by omega
    go_enter Tryz.func222, Tryz.ntmps222
    go_wp2;go_ret;exact ⟨rfl, by exact zqf⟩
  ·rw [decide_eq_false (fun h => h1 h.1)]
   go_enter Tryz.func222, Tryz.ntmps222
   go_wp2;go_ret;exact ⟨rfl, by exact zqf⟩
 ·have hs0 : ¬ ((0 : Int) < (s : Int)) := by omega
  rw [decide_eq_false (fun h => by omega)]
  go_enter Tryz.func222, Tryz.ntmps222
  go_wp2;go_ret;exact ⟨rfl, by exact zqf⟩
theorem zqoi (f s : Nat) (w : World) (h1 : 2 <= s) (hf : f <= 1099511627776) (hs : s <= 1099511627776) :
  Calls Tryz.prog 231 #[.agg #[.int .i64 (f : Int), .int .i64 (s : Int)]] w (Rt w (.tuple #[.agg #[.int .i64 (f : Int), .int .i64 (zqw s : Nat)], .agg #[.int .i64 ((f : Int) + ((zqw s : Nat) : Int)), .int .i64 ((s : Int) - ((zqw s : Nat) : Int))]])) := by
 have hb := zqb8 h1;have cl := fun W : World => zqqc (s : Int) W (by omega);rw [show ((s : Int)).toNat = s by omega] at cl;generalize zqw s = L at *;have hG := Grew.refl w;have fv : True := trivial;have fa : True := trivial;have fb : True := trivial
 go_enter Tryz.func231, Tryz.ntmps231
 go_wp2_with fail;generalize hW : ((w.alloc (.cells #[.int .i64 (f : Int), .int .i64 (s : Int)] 304)).alloc (.cells #[.int .i64 0, .int .i64 0] 304)).alloc (.cells #[.int .i64 0, .int .i64 0] 304) = w1;replace fv : zqe w1 (w.heap.size) = some (.cells #[.int .i64 (f : Int), .int .i64 (s : Int)] 304) := zqs hW;replace fa : zqe w1 (w.heap.size + 1) = some (.cells #[.int .i64 0, .int .i64 0] 304) := zqs hW;replace fb : zqe w1 (w.heap.size + 1 + 1) = some (.cells #[.int .i64 0, .int .i64 0] 304) := zqs hW;replace hG : Below w.heap.size w w1 := zqam hW;clear hW;have lfv := zqa fv;have lfa := zqa fa;have lfb := zqa fb;go_wp2_with fail
 (refine (cl _).mono ?_; rintro e w2 ⟨rfl, hb⟩; replace fv : zqe w2 (w.heap.size) = some (.cells #[.int .i64 (f : Int), .int .i64 (s : Int)] 304) := zqc hb (by exact zqh); have lfv := zqa fv; replace fa : zqe w2 (w.heap.size + 1) = some (.cells #[.int .i64 0, .int .i64 0] 304) := zqc hb (by exact zqh); have lfa := zqa fa; replace fb : zqe w2 (w.heap.size + 1 + 1) = some (.cells #[.int .i64 0, .int .i64 0] 304) := zqc hb (by exact zqh); have lfb := zqa fb; replace hG : Below w.heap.size w w2 := Grew.trans (by exact zqf) hb; clear hb)
 have nva : ¬ (w.heap.size = w.heap.size + 1) := by omega
 have nvb : ¬ (w.heap.size = w.heap.size + 1 + 1) := by omega
 have nab : ¬ (w.heap.size + 1 = w.heap.size + 1 + 1) := by omega
 have lga : w.heap.size <= w.heap.size + 1 := by omega
 have lgb : w.heap.size <= w.heap.size + 1 + 1 := by omega
 generalize w.heap.size + 1 + 1 = gb at *;generalize w.heap.size + 1 = ga at *;go_wp2_with fail;refine zrag ga gb fa fb zqb zqb ?_
 intro γ
 iterate 13 (refine zqww rfl ?_; (first | go_big_quiet_skip | (go_big_quiet_want; go_big_quiet_op; go_big_quiet_on)); refine wpQuiet_nil ?_)
 refine zqth fa nab rfl rfl rfl (zqad _) zqb rfl (zqbk _ _ _ _) (zqcj (zqcr _ _ _)) ?_
 refine zqtf fb nab rfl rfl rfl (zqad _) zqb rfl (zqbk _ _ _ _) (zqgt ⟨zqd5 _ _ _ _ nab, zqd5 _ _ _ _ (fun e => nab e.symm)⟩ (zqcj (zqcr _ _ _))) ?_
 refine zq5d (List.mem_cons_of_mem _ (List.mem_cons_self ..)) (List.mem_cons_self ..) (fun mq => ?_) nab fa fb;have ea := zqp mq (zqk gb #[.int .i64 ((f : Int) + (L : Int)), .int .i64 ((s : Int) - (L : Int))] (zqq #[.int .i64 (f : Int), .int .i64 (L : Int)] fa) nab);have eb := zqp mq (zqq #[.int .i64 ((f : Int) + (L : Int)), .int .i64 ((s : Int) - (L : Int))] (zqk ga #[.int .i64 (f : Int), .int .i64 (L : Int)] fb (fun e => nab e.symm)));have hG2 : Below w.heap.size w (more ((w2.setRow ga #[.int .i64 (f : Int), .int .i64 (L : Int)]).setRow gb #[.int .i64 ((f : Int) + (L : Int)), .int .i64 ((s : Int) - (L : Int))]) mq) := Grew.more (Grew.setRow (Grew.setRow hG ga _ lga) gb _ lgb) mq
 generalize more ((w2.setRow ga #[.int .i64 (f : Int), .int .i64 (L : Int)]).setRow gb #[.int .i64 ((f : Int) + (L : Int)), .int .i64 ((s : Int) - (L : Int))]) mq = w3 at *;go_wp2;refine zqkx rfl ga gb 304 304 _ _ (0, 0) (0, 0) _ _ rfl rfl ea eb Tryz.underlying304 rfl zqb Tryz.underlying304 rfl zqb rfl ⟨rfl, hG2⟩
def ndEq (a b c d : Int) : Bool := decide (a = c /\ b = d)
theorem zqu3 {a b c d : Int} (h : a = c /\ b = d) : ndEq a b c d = true := decide_eq_true h
theorem zq25 {a b c d : Int} (h : ¬ (a = c /\ b = d)) : ndEq a b c d = false := decide_eq_false h
theorem zq3s (a b c d : Int) (w : World) : (binOp .neq 304 (.agg #[.int .i64 a, .int .i64 b]) (.agg #[.int .i64 c, .int .i64 d])).run Tryz.prog w = .ok (.bool (!ndEq a b c d)) w := by
 unfold ndEq
 simp [go_sem]
 by_cases h1 : a = c <;> by_cases h2 : b = d <;> simp [h1, h2]
attribute [local go_sem ↓ high] zq3s
attribute [local irreducible] ndEq
theorem zqxr (n f s : Int) (w : World) (hf0 : -9223372036854775808 <= f) (hf1 : f <= 9223372036854775807) :
  Calls Tryz.prog 219 #[.int .i64 n, .agg #[.int .i64 (f : Int), .int .i64 (s : Int)]] w (Rt w (.int .i64 (idxI f s (allN n) 0))) := by
 have c1 := fun W : World => zqgn n W
 by_cases h : 1 <= n /\ n <= 1024
 case neg =>
  rw [zqn8 h];rw [decide_eq_false h] at c1;have hG := Grew.refl w;have fv : True := trivial
  go_enter Tryz.func219, Tryz.ntmps219
  go_wp2_with fail;generalize hW : w.alloc (.cells #[.int .i64 (f : Int), .int .i64 (s : Int)] 304) = w1;replace fv : zqe w1 (w.heap.size) = some (.cells #[.int .i64 (f : Int), .int .i64 (s : Int)] 304) := zqs hW;replace hG : Below w.heap.size w w1 := zqam hW;clear hW;have lfv := zqa fv;go_wp2_with fail
  (refine (c1 _).mono ?_; rintro e w2 ⟨rfl, hb⟩; replace fv := zqc hb fv; have lfv := zqa fv; replace hG : Below w.heap.size w w2 := Grew.trans (by exact zqf) hb; clear hb)
  go_wp2;go_ret;exact ⟨rfl, hG⟩
 obtain ⟨N, rfl⟩ := Int.eq_ofNat_of_zero_le (show 0 <= n by omega);obtain ⟨h1, h2⟩ := h;rw [zqhi (by omega) (by omega)];rw [decide_eq_true ⟨h1, h2⟩] at c1;have hI0 : Hid (idxI f s (zqae 0 N) 0 = idxI f s (zqae 0 N) 0) := rfl;generalize hI : idxI f s (zqae 0 N) 0 = I at hI0 ⊢;replace hI0 : Hid (idxI f s (zqae 0 N) 0 = I) := hI;clear hI;have hG := Grew.refl w;have fv : True := trivial
 go_enter Tryz.func219, Tryz.ntmps219
 go_wp2_with fail;generalize hW : w.alloc (.cells #[.int .i64 (f : Int), .int .i64 (s : Int)] 304) = w1;replace fv : zqe w1 (w.heap.size) = some (.cells #[.int .i64 (f : Int), .int .i64 (s : Int)] 304) := zqs hW;replace hG : Below w.heap.size w w1 := zqam hW;clear hW;have lfv := zqa fv;go_wp2_with fail
 (refine (c1 _).mono ?_; rintro e w2 ⟨rfl, hb⟩; replace fv := zqc hb fv; have lfv := zqa fv; replace hG : Below w.heap.size w w2 := Grew.trans (by exact zqf) hb; clear hb)
 have lv2 := lfv;go_wp2_with fail;have fa : zqe (w2.alloc (.cells #[.int .i64 (0 : Nat), .int .i64 (N : Int)] 304)) w2.heap.size = some (.cells #[.int .i64 (0 : Nat), .int .i64 (N : Int)] 304) := zqg _ _ _ rfl;replace fv : zqe (w2.alloc (.cells #[.int .i64 (0 : Nat), .int .i64 (N : Int)] 304)) (w.heap.size) = some (.cells #[.int .i64 (f : Int), .int .i64 (s : Int)] 304) := zqj _ fv;replace hG : Below w.heap.size w (w2.alloc (.cells #[.int .i64 (0 : Nat), .int .i64 (N : Int)] 304)) := Grew.alloc hG _;clear lfv;generalize w2.alloc (.cells #[.int .i64 (0 : Nat), .int .i64 (N : Int)] 304) = w3 at *;generalize w2.heap.size = ga at *;have lfv := zqa fv;have lfa := zqa fa;have nva : ¬ (w.heap.size = ga) := by omega
 have hga : w.heap.size <= ga := by omega
 clear c1 lfv lfa;go_wp2_with fail
 go_loopw [6, 7, 8] (fun p _ _ wr => ∃ F S k : Nat, p = .int .i64 k /\ Below w.heap.size w wr /\ zqe wr w.heap.size = some (.cells #[.int .i64 (f : Int), .int .i64 (s : Int)] 304) /\ zqe wr ga = some (.cells #[.int .i64 (F : Int), .int .i64 (S : Int)] 304) /\ Hid (1 <= S /\ F + S <= 1024 /\ k + 2 * S <= 2048) /\ Hid (idxI f s (zqae F S) k = I)) (fun p _ _ _ => 2048 - (intOf p).toNat)
 case atStart => exact ⟨0, N, 0, rfl, hG, fv, fa, ⟨by omega, by omega, by omega⟩, hI0⟩
 case round =>
  clear fv fa hG hI0;obtain ⟨F, S, k, rfl, hG, fv, fa, hB, hI⟩ := hrel;have lfv := zqa fv;have lfa := zqa fa;obtain ⟨b1, b2, b3⟩ := hB.out
  by_cases hit : (F : Int) = f /\ (S : Int) = s
  ·have e := hI.out
   rw [zq6g hit] at e;subst e;obtain ⟨rfl, rfl⟩ := hit;have hq := zqu3 (a := F) (b := S) (c := F) (d := S) ⟨rfl, rfl⟩;clear hI b1 b2 b3 hB;go_wp2;go_ret;exact ⟨rfl, hG⟩
  ·have hq : ndEq F S f s = false := zq25 hit
   by_cases hS : S = 1
   ·subst hS
    replace hq : ndEq F 1 f s = false := hq;have e := hI.out;rw [zq9h (fun h => hit h)] at e;subst e;clear hI hit b1 b2 b3 hB;go_wp2;go_ret;exact ⟨rfl, hG⟩
   ·have hS1 : ¬ ((S : Int) = 1) := by omega
    have hb := zqb8 (n := S) (by omega);have c2 := fun W : World => zqoi F S W (by omega) (by omega) (by omega);have c3 := fun W : World => zqin F (zqw S) f W (by omega) (by omega) hf0 hf1;have hI2 : Hid (∀ a b : Nat, (F : Int) <= f /\ f < (F : Int) + (a : Int) -> a = zqw S -> idxI f s (zqae F a) (k + 1) = I) := fun a b h e => by subst e; rw [<- zq45 (by omega) hit h]; exact hI.out
    have hI3 : Hid (∀ a b : Nat, ¬ ((F : Int) <= f /\ f < (F : Int) + (a : Int)) -> a = zqw S -> idxI f s (zqae (F + a) (S - a)) (k + 2 * a) = I) := fun a b h e => by subst e; rw [<- zq5z (by omega) hit h]; exact hI.out
    have hB2 : Hid (∀ a, a = zqw S -> (1 <= a /\ F + a <= 1024 /\ k + 1 + 2 * a <= 2048) /\ (1 <= S - a /\ F + a + (S - a) <= 1024 /\ k + 2 * a + 2 * (S - a) <= 2048)) := fun a e => by subst e; omega
    obtain ⟨L, hL⟩ : ∃ L, L = zqw S := ⟨_, rfl⟩
    replace hI2 := hI2.out L 0;replace hI3 := hI3.out L 0;replace hB2 := hB2.out L hL;rw [<- hL] at c2 c3 hb;have hJ2 : Hid ((F : Int) <= f /\ f < (F : Int) + (L : Int) -> idxI f s (zqae F L) (k + 1) = I) := fun h => hI2 h hL;have hJ3 : Hid (¬ ((F : Int) <= f /\ f < (F : Int) + (L : Int)) -> idxI f s (zqae (F + L) (S - L)) (k + 2 * L) = I) := fun h => hI3 h hL;have hJB : Hid ((1 <= L /\ F + L <= 1024 /\ k + 1 + 2 * L <= 2048) /\ (1 <= S - L /\ F + L + (S - L) <= 1024 /\ k + 2 * L + 2 * (S - L) <= 2048)) := hB2;clear hit hI hI2 hI3 hB2 hL b1 b2 b3 hB;go_wp2_with fail
    (refine (c2 _).mono ?_; rintro e w11 ⟨rfl, hb⟩; replace fv : zqe w11 (w.heap.size) = some (.cells #[.int .i64 (f : Int), .int .i64 (s : Int)] 304) := zqc hb (by exact zqh); have lfv := zqa fv; replace fa : zqe w11 (ga) = some (.cells #[.int .i64 (F : Int), .int .i64 (S : Int)] 304) := zqc hb (by exact zqh); have lfa := zqa fa; replace hG : Below w.heap.size w w11 := Grew.trans (by exact zqf) hb; clear hb)
    have lal := lfa;have lar : ga < w11.heap.size + 1 := by omega
    go_wp2_with fail;have ev : zqe ((w11.alloc (.cells #[.int .i64 (F : Int), .int .i64 (L : Int)] 304)).alloc (.cells #[.int .i64 ((F : Int) + (L : Int)), .int .i64 ((S : Int) - (L : Int))] 304)) (w.heap.size) = some (.cells #[.int .i64 (f : Int), .int .i64 (s : Int)] 304) := zqj _ (zqj _ (fv));have ea : zqe ((w11.alloc (.cells #[.int .i64 (F : Int), .int .i64 (L : Int)] 304)).alloc (.cells #[.int .i64 ((F : Int) + (L : Int)), .int .i64 ((S : Int) - (L : Int))] 304)) (ga) = some (.cells #[.int .i64 (F : Int), .int .i64 (S : Int)] 304) := zqj _ (zqj _ (fa));have el : zqe ((w11.alloc (.cells #[.int .i64 (F : Int), .int .i64 (L : Int)] 304)).alloc (.cells #[.int .i64 ((F : Int) + (L : Int)), .int .i64 ((S : Int) - (L : Int))] 304)) (w11.heap.size) = some (.cells #[.int .i64 (F : Int), .int .i64 (L : Int)] 304) := zqj _ (zqg _ _ _ rfl)
    have er : zqe ((w11.alloc (.cells #[.int .i64 (F : Int), .int .i64 (L : Int)] 304)).alloc (.cells #[.int .i64 ((F : Int) + (L : Int)), .int .i64 ((S : Int) - (L : Int))] 304)) (w11.heap.size + 1) = some (.cells #[.int .i64 ((F : Int) + (L : Int)), .int .i64 ((S : Int) - (L : Int))] 304) := zqg _ _ _ (by simp);replace hG : Below w.heap.size w ((w11.alloc (.cells #[.int .i64 (F : Int), .int .i64 (L : Int)] 304)).alloc (.cells #[.int .i64 ((F : Int) + (L : Int)), .int .i64 ((S : Int) - (L : Int))] 304)) := Grew.alloc (Grew.alloc (hG) _) _;clear fv lfv fa lfa;generalize (w11.alloc (.cells #[.int .i64 (F : Int), .int .i64 (L : Int)] 304)).alloc (.cells #[.int .i64 ((F : Int) + (L : Int)), .int .i64 ((S : Int) - (L : Int))] 304) = w12 at *;generalize w11.heap.size + 1 = gr at *;generalize w11.heap.size = gl at *;have fv := ev;have fa := ea;have fr := er;have fl := el
    clear ev ea er el;have lfv := zqa fv;have lfa := zqa fa;have lfr := zqa fr;have lfl := zqa fl;go_wp2_with fail
    (refine (c3 _).mono ?_; rintro e w13 ⟨rfl, hb⟩; replace fv : zqe w13 (w.heap.size) = some (.cells #[.int .i64 (f : Int), .int .i64 (s : Int)] 304) := zqc hb (by exact zqh); have lfv := zqa fv; replace fa : zqe w13 (ga) = some (.cells #[.int .i64 (F : Int), .int .i64 (S : Int)] 304) := zqc hb (by exact zqh); have lfa := zqa fa; replace fr : zqe w13 (gr) = some (.cells #[.int .i64 ((F : Int) + (L : Int)), .int .i64 ((S : Int) - (L : Int))] 304) := zqc hb (by exact zqh); have lfr := zqa fr; replace fl : zqe w13 (gl) = some (.cells #[.int .i64 (F : Int), .int .i64 (L : Int)] 304) := zqc hb (by exact zqh); have lfl := zqa fl; replace hG : Below w.heap.size w w13 := Grew.trans (by exact zqf) hb; clear hb)
    by_cases hl : (F : Int) <= (f : Int) /\ (f : Int) < (F : Int) + (L : Int)
    ·rw [decide_eq_true hl]
     have hjb : k <= 2048 := by have := hJB.out; omega
     have hjk : (k : Int) + 1 <= 2048 := by have := hJB.out; omega
     go_wp2
     go_roundw
     case rel => exact ⟨F, L, k + 1, by go_num, Grew.setRow hG ga _ hga, zqk _ _ fv nva, zqq _ fa, hJB.out.1, hJ2.out (by omega)⟩
     case measure => (simp [intOf] <;> omega)
    ·rw [decide_eq_false hl]
     have nra : ¬ (gr = ga) := by omega
     have nla : ¬ (gl = ga) := by omega
     have hjb := hJB.out;have hj1 : (0 : Int) < (L : Int) := by omega
     have hj2 : (k : Int) + 2 * (L : Int) <= 2048 := by omega
     go_wp2_with fail;refine zq87 ga fa zqb zqb ?_
     intro γ
     iterate 6 (refine zqny rfl ?_; (first | go_big_quiet_skip | (go_big_quiet_want; go_big_quiet_op; go_big_quiet_on)); refine wpQuiet_nil ?_)
     refine zqs3 fa rfl rfl rfl (zqad _) zqb rfl (zqbk _ _ _ _) (zqcj (zqcr _ _ _)) ?_
     iterate 1 (refine zqny rfl ?_; (first | go_big_quiet_skip | (go_big_quiet_want; go_big_quiet_op; go_big_quiet_on)); refine wpQuiet_nil ?_)
     refine zq41 (List.mem_cons_self ..) (fun mq => ?_) fa;have hG2 : Below w.heap.size w (more (w13.setRow ga #[.int .i64 ((F : Int) + (L : Int)), .int .i64 ((S : Int) - (L : Int))]) mq) := Grew.more (Grew.setRow hG ga _ hga) mq;have fv2 := zqp mq (zqk ga #[.int .i64 ((F : Int) + (L : Int)), .int .i64 ((S : Int) - (L : Int))] fv nva);have fa2 := zqp mq (zqq #[.int .i64 ((F : Int) + (L : Int)), .int .i64 ((S : Int) - (L : Int))] fa);generalize more (w13.setRow ga #[.int .i64 ((F : Int) + (L : Int)), .int .i64 ((S : Int) - (L : Int))]) mq = w14 at *;have eS : ((S - L : Nat) : Int) = (S : Int) - (L : Int) := by omega
     have eF : ((F + L : Nat) : Int) = (F : Int) + (L : Int) := by omega
     rw [<- eS, <- eF] at fa2;clear eS eF;go_wp2
     go_roundw
     case rel => exact ⟨F + L, S - L, k + 2 * L, by go_num, hG2, fv2, fa2, hJB.out.2, hJ3.out (by omega)⟩
     case measure => (simp [intOf] <;> omega)
theorem zqx5 (n : Int) (f s : Nat) (w : World) (hf : f <= 2199023255552) (hs : s <= 2199023255552) :
  Calls Tryz.prog 219 #[.int .i64 n, .agg #[.int .i64 (f : Int), .int .i64 (s : Int)]] w (Rt w (.int .i64 (idxN f s (allN n) 0))) := by
 have := zqxr n f s w (by omega) (by omega);rw [zqoa] at this;exact this
end Go.Proofs.YtfglcifnjaknnaaGreatDoor
namespace Go.Proofs.YtfglcifnjaknnaaGreatDoor
open Go.RowKit
@[go_sem ↓ high] theorem zq70 (ty : TypeId) (cs : Array Bool) (args : Array Value) : builtin .append #[298, 298] ty cs args = zqr #[298, 298] ty args := by unfold zqr; rfl
theorem zq1j (cs : Array Value) (n : Nat) (u v : Value) (h : 2 * n + 2 <= cs.size) : (zqbs cs (2 * n) [u, v]).toList.take (2 * (n + 1)) = cs.toList.take (2 * n) ++ [u, v] := by
 have e : (zqbs cs (2 * n) [u, v]).toList = (cs.toList.set (2 * n) u).set (2 * n + 1) v := by simp [zqbs]
 rw [e]
 apply List.ext_getElem?
 intro i;have hl : (cs.toList.take (2 * n)).length = 2 * n := by rw [List.length_take, Array.length_toList]; omega
 have hz : cs.toList.length = cs.size := Array.length_toList
 by_cases h1 : i < 2 * n
 ·rw [List.getElem?_take, if_pos (by omega), List.getElem?_append_left (by omega), List.getElem?_set, if_neg (by omega), List.getElem?_set, if_neg (by omega), List.getElem?_take, if_pos h1]
 ·rw [List.getElem?_append_right (by omega), hl, List.getElem?_take]
  by_cases h2 : i = 2 * n
  ·subst h2
   rw [if_pos (by omega), List.getElem?_set, if_neg (by omega), List.getElem?_set, if_pos rfl, if_pos (by omega), Nat.sub_self]; rfl
  ·by_cases h3 : i = 2 * n + 1
   ·subst h3
    rw [if_pos (by omega), List.getElem?_set, if_pos rfl, if_pos (by rw [List.length_set]; omega), show 2 * n + 1 - 2 * n = 1 by omega]; rfl
   ·rw [if_neg (by omega), List.getElem?_eq_none (by simp; omega)]
theorem zqmh (ty : TypeId) (W : World) (g n C b : Nat) (cs : Array Value) (u v : Value) (t : TypeId) (fr : Nat × Nat) (hg : zqe W g = some (.cells cs 304)) (hs : cs.size = 2 * C) (hn : n + 1 <= C) (hb : zqe W b = some (.cells #[u, v] t fr)) (h1 : u.oneCell' = true) (h2 : v.oneCell' = true) :
  (zqr #[298, 298] ty #[.slice (some ⟨g, 0, none⟩) n C, .slice (some ⟨b, 0, none⟩) 1 1]).run Tryz.prog W = .ok (.value (.slice (some ⟨g, 0, none⟩) (n + 1) C)) (W.setRow g (zqbs cs (2 * n) [u, v])) := by
 unfold zqe at hg hb;obtain ⟨i, hi, hz⟩ : ∃ i, Tryz.prog.info? 304 = some i /\ i.size = 2 := ⟨(Tryz.prog.info? 304).get zqb, by kernel_rfl, by kernel_rfl⟩
 have hrun := run_append_room_cells (P := Tryz.prog) W 298 ty 304 i Tryz.underlying298 hi g 0 n C ⟨b, 0, none⟩ 1 1 [u, v] (by rw [hz]; rfl)
  (fun j x hx => by
   have : (⟨b, 0, none⟩ : Addr).add j = ⟨b, j, none⟩ := by unfold Addr.add; split <;> simp_all
   rw [this, cell_of_row W b j _ _ _ hb]
   simpa using hx) (fun x hx => by simp at hx; rcases hx with rfl | rfl <;> assumption) hn
  (fun j hj => by
   rw [hz, cell_of_row W g _ _ _ _ hg]
   simp at hj
   simp; omega)
  (fun j _ => frozen_of_row W g _ _ _ hg)
 rw [hz, Nat.zero_add, Nat.mul_comm, zqe0 g 304 _ _ cs W hg] at hrun;unfold zqr
 simp only [Sem.run_bind, hrun, Result.andThen_ok, Sem.run_pure]
theorem zql7 {a b : World} {g : Nat} (h : Below a.heap.size a b) (hg : g < a.heap.size) (c : Array Value) : Below (a.setRow g c).heap.size (a.setRow g c) (b.setRow g c) := by
 obtain ⟨m, rfl⟩ := zqcn h;rw [zqf5 _ _ _ _ hg];exact zqo _ _
theorem zqrw (s : Nat) : ∀ (f n g C : Nat) (cs : Array Value) (w : World), 1 <= s -> f + s <= 1024 -> n + (2 * s - 1) <= C -> C <= 4096 -> zqe w g = some (.cells cs 304) -> cs.size = 2 * C ->
  Calls Tryz.prog 227 #[.agg #[.int .i64 (f : Int), .int .i64 (s : Int)], .slice (some ⟨g, 0, none⟩) n C] w fun e w' => e = .returned (.slice (some ⟨g, 0, none⟩) (n + (2 * s - 1)) C) /\ ∃ cs', Below (w.setRow g cs').heap.size (w.setRow g cs') w' /\ cs'.size = 2 * C /\ cs'.toList.take (2 * (n + (2 * s - 1))) = cs.toList.take (2 * n) ++ ndsL (zqae f s) := by
 induction s using Nat.strongRecOn with
 | _ s ih =>
  intro f n g C cs w h1 h2 hnC hC4 hg hs;have lg := zqa hg;have hne0 : ¬ (g = w.heap.size) := by omega
  have hne1 : ¬ (g = w.heap.size + 1) := by omega
  by_cases h3 : s < 2
  ·obtain rfl : s = 1 := by omega
   have hr1 := zqmh 298 ((w.alloc (.cells #[.int .i64 f, .int .i64 (1 : Int)] 304)).alloc (.cells #[.int .i64 f, .int .i64 (1 : Int)] 304)) g n C (w.heap.size + 1) cs (.int .i64 f) (.int .i64 (1 : Int)) 304 (0, 0) (zqj _ (zqj _ hg)) hs (by omega) (zqg _ _ _ (by simp)) rfl rfl;have hp := zq1j cs n (.int .i64 f) (.int .i64 (1 : Int)) (by omega);have hps : (zqbs cs (2 * n) [.int .i64 f, .int .i64 (1 : Int)]).size = 2 * C := by simp [zqbs, hs]
   generalize zqbs cs (2 * n) [.int .i64 f, .int .i64 (1 : Int)] = cs1 at *;rw [zqbl (by decide)];clear ih
   go_enter Tryz.func227, Tryz.ntmps227
   go_wp2;go_ret;exact ⟨rfl, cs1, Grew.alloc (Grew.alloc (Grew.refl _) _) _, hps, by rw [zqoo]; exact hp⟩
  ·have hr1 := zqmh 298 ((w.alloc (.cells #[.int .i64 f, .int .i64 (s : Int)] 304)).alloc (.cells #[.int .i64 f, .int .i64 (s : Int)] 304)) g n C (w.heap.size + 1) cs (.int .i64 f) (.int .i64 (s : Int)) 304 (0, 0) (zqj _ (zqj _ hg)) hs (by omega) (zqg _ _ _ (by simp)) rfl rfl
   have hp := zq1j cs n (.int .i64 f) (.int .i64 (s : Int)) (by omega);have hps : (zqbs cs (2 * n) [.int .i64 f, .int .i64 (s : Int)]).size = 2 * C := by simp [zqbs, hs]
   generalize zqbs cs (2 * n) [.int .i64 f, .int .i64 (s : Int)] = cs1 at *;have hb := zqb8 (n := s) (by omega);have c2 := fun W : World => zqoi f s W (by omega) (by omega) (by omega);have iL := fun (W : World) (cs' : Array Value) (h : zqe W g = some (.cells cs' 304)) (h' : cs'.size = 2 * C) => ih (zqw s) (by omega) f (n + 1) g C cs' W (by omega) (by omega) (by omega) hC4 h h';have iR := fun (W : World) (cs' : Array Value) (h : zqe W g = some (.cells cs' 304)) (h' : cs'.size = 2 * C) => ih (s - zqw s) (by omega) (f + zqw s) (n + 1 + (2 * zqw s - 1)) g C cs' W (by omega) (by omega) (by omega) hC4 h h';have hL : Hid (ndsL (zqae f s) = [.int .i64 f, .int .i64 s] ++ ndsL (zqae f (zqw s)) ++ ndsL (zqae (f + zqw s) (s - zqw s))) := by
    show _ = _
    rw [zqa9 (by omega), zqlq, zqhu]; rfl
   rw [show ((s - zqw s : Nat) : Int) = (s : Int) - (zqw s : Int) by omega, show ((f + zqw s : Nat) : Int) = (f : Int) + (zqw s : Int) by omega] at iR;have hsz : n + 1 + (2 * zqw s - 1) + (2 * (s - zqw s) - 1) = n + (2 * s - 1) := by omega
   rw [hsz] at iR;generalize ndsL (zqae f s) = A0 at *;generalize ndsL (zqae f (zqw s)) = A1 at *;generalize ndsL (zqae (f + zqw s) (s - zqw s)) = A2 at *;generalize zqw s = L at *;have hP : Hid (cs1.toList.take (2 * (n + 1)) = cs.toList.take (2 * n) ++ [.int .i64 f, .int .i64 s]) := hp;clear ih hp
   go_enter Tryz.func227, Tryz.ntmps227
   go_wp2_with fail;have fg0 : zqe (w.setRow g cs1) g = some (.cells cs1 304) := zqq _ hg;have hz0 : (w.setRow g cs1).heap.size = w.heap.size := zq0 _ _ _;have hOut : Hid (∀ W, Below (w.setRow g cs1).heap.size (w.setRow g cs1) W -> ∀ cs2, (W.setRow g cs2).heap.size = W.heap.size) := fun W _ cs2 => zq0 _ _ _;obtain ⟨w0, hw0⟩ : ∃ w0, Hid (w.setRow g cs1 = w0) := ⟨_, rfl⟩
   rw [hw0.out] at fg0 hz0 ⊢;clear hr1 hOut;refine (c2 _).mono ?_
   rintro e w2 ⟨rfl, hb2⟩;have hG2 : Below w0.heap.size w0 w2 := Grew.trans (Grew.alloc (Grew.alloc (Grew.refl w0) _) _) hb2;have fg2 : zqe w2 g = some (.cells cs1 304) := zqc hG2 fg0;have ngl : ¬ (w2.heap.size = g) := by have := zqa fg2; omega
   have ngr : ¬ (w2.heap.size + 1 = g) := by have := zqa fg2; omega
   clear hb2 c2;go_wp2_with fail;have fl : zqe ((w2.alloc (.cells #[.int .i64 (f : Int), .int .i64 (L : Int)] 304)).alloc (.cells #[.int .i64 ((f : Int) + (L : Int)), .int .i64 ((s : Int) - (L : Int))] 304)) w2.heap.size = some (.cells #[.int .i64 (f : Int), .int .i64 (L : Int)] 304) := zqj _ (zqg _ _ _ rfl);have fr : zqe ((w2.alloc (.cells #[.int .i64 (f : Int), .int .i64 (L : Int)] 304)).alloc (.cells #[.int .i64 ((f : Int) + (L : Int)), .int .i64 ((s : Int) - (L : Int))] 304)) (w2.heap.size + 1) = some (.cells #[.int .i64 ((f : Int) + (L : Int)), .int .i64 ((s : Int) - (L : Int))] 304) := zqg _ _ _ (by simp);have fg3 : zqe ((w2.alloc (.cells #[.int .i64 (f : Int), .int .i64 (L : Int)] 304)).alloc (.cells #[.int .i64 ((f : Int) + (L : Int)), .int .i64 ((s : Int) - (L : Int))] 304)) g = some (.cells cs1 304) := zqj _ (zqj _ fg2)
   have hG3 : Below w0.heap.size w0 ((w2.alloc (.cells #[.int .i64 (f : Int), .int .i64 (L : Int)] 304)).alloc (.cells #[.int .i64 ((f : Int) + (L : Int)), .int .i64 ((s : Int) - (L : Int))] 304)) := Grew.alloc (Grew.alloc hG2 _) _;generalize (w2.alloc (.cells #[.int .i64 (f : Int), .int .i64 (L : Int)] 304)).alloc (.cells #[.int .i64 ((f : Int) + (L : Int)), .int .i64 ((s : Int) - (L : Int))] 304) = w3 at *;generalize w2.heap.size + 1 = gr at *;generalize w2.heap.size = gl at *;clear fg2 hG2;have lfl := zqa fl;have lfr := zqa fr
   go_region_held3 (fun w' => zqe w' gl = some (.cells #[.int .i64 (f : Int), .int .i64 (L : Int)] 304) /\ zqe w' gr = some (.cells #[.int .i64 ((f : Int) + (L : Int)), .int .i64 ((s : Int) - (L : Int))] 304)) (first | exact ⟨fl, fr⟩ | exact ⟨fl2, fr2⟩ | trivial | fail) (first | ((with_reducible refine (iL _ cs1 ?_ hps).mono ?_); (focus exact fg3); rintro e wL ⟨rfl, csL, hbL, hsL, htL⟩; have fgL : zqe wL g = some (.cells csL 304) := zqc hbL (zqq (w := w3) csL fg3); have fl2 : zqe wL gl = some (.cells #[.int .i64 (f : Int), .int .i64 (L : Int)] 304) := zqc hbL (zqk (w := w3) g csL fl ngl); have fr2 : zqe wL gr = some (.cells #[.int .i64 ((f : Int) + (L : Int)), .int .i64 ((s : Int) - (L : Int))] 304) := zqc hbL (zqk (w := w3) g csL fr ngr)) | ((with_reducible refine (iR _ csL fgL hsL).mono ?_); rintro e wR ⟨rfl, csR, hbR, hsR, htR⟩; have fl3 := zqc hbR (zqk g csR fl2 ngl); have fr3 := zqc hbR (zqk g csR fr2 ngr)))
   have lg3 := zqa fg3;have lgL := zqa fgL;have hlist : csR.toList.take (2 * (n + (2 * s - 1))) = cs.toList.take (2 * n) ++ A0 := by rw [htR, htL, hP.out, hL.out]; simp only [List.append_assoc]
   have hX1 : Below (w0.setRow g csL).heap.size (w0.setRow g csL) (w3.drew.setRow g csL) := zql7 (b := w3.drew) (Grew.drewN hG3 1) (by omega) csL;have hX2 : Below (w0.setRow g csL).heap.size (w0.setRow g csL) wL := Grew.trans hX1 hbL;have hX3 : Below ((w0.setRow g csL).setRow g csR).heap.size ((w0.setRow g csL).setRow g csR) (wL.setRow g csR) := zql7 hX2 (by rw [zq0]; omega) csR;have hX4 : Below ((w0.setRow g csL).setRow g csR).heap.size ((w0.setRow g csL).setRow g csR) wR := Grew.trans hX3 hbR;rw [<- hw0.out, setRow_setRow, setRow_setRow] at hX4;clear hX1 hX2 hX3 hbL hbR htR htL hL hP hG3 hw0;go_wp2;go_ret;exact ⟨rfl, csR, hX4, hsR, hlist⟩
theorem zqxf (n : Int) (w : World) (h0 : 0 <= n) (h1 : n <= 100000) : ∃ M : Array Value, M.size = 2 * n.toNat /\ (Instr.makeSlice 298 (.int .i64 0) (.int .i64 n)).run Tryz.prog w = .ok (.slice (some ⟨w.heap.size, 0, none⟩) 0 n.toNat) (w.alloc (.cells M 304)) := by
 obtain ⟨i, z, hi, hz, hs, hb⟩ : ∃ i z, Tryz.prog.info? 304 = some i /\ i.zero = some z /\ i.size = 2 /\ i.bytes = 16 := ⟨(Tryz.prog.info? 304).get zqb, ((Tryz.prog.info? 304).get zqb).zero.get zqb, by kernel_rfl, by kernel_rfl, by kernel_rfl, by kernel_rfl⟩
 have h := run_make (P := Tryz.prog) w 298 304 i z Tryz.underlying298 hi hz .i64 .i64 0 n (Int.le_refl _) h0 (by rw [hb]; omega) (by omega);exact ⟨_, by rw [size_madeCells, hs, Nat.mul_comm], h⟩
theorem zqv7 {w : World} {g : Nat} {cs : Array Value} {t : TypeId} {fr : Nat × Nat} {L : List Nd} {k : Nat} (hg : zqe w g = some (.cells cs t fr)) (h : cs.toList.take (2 * k) = ndsL L) (hk : L.length <= k) : NdsAt w (some ⟨g, 0, none⟩) L := by
 refine .inr ⟨g, 0, rfl, zqa hg, fun i v hv => ?_⟩;have hi : i < L.length := (List.getElem?_eq_some_iff.1 hv).1;obtain ⟨h1, h2⟩ := zqor L i v hv;rw [hg, zqb9, zqb9, Nat.zero_add];rw [<- h, List.getElem?_take, if_pos (by omega)] at h1 h2;exact ⟨by simpa using h1, by simpa using h2⟩
theorem zqvi (n : Int) (w : World) :
  Calls Tryz.prog 209 #[.int .i64 n] w (zqqb w (allN n)) := by
 have hG := Grew.refl w;have c1 := fun W : World => zqgn n W
 by_cases h : 1 <= n /\ n <= 1024
 case neg =>
  rw [zqn8 h];rw [decide_eq_false h] at c1
  go_enter Tryz.func209, Tryz.ntmps209
  go_wp2_with fail;refine (c1 _).mono ?_
  rintro e w1 ⟨rfl, hb1⟩;go_wp2;go_ret;exact ⟨none, 0, rfl, .inl rfl, hb1⟩
 obtain ⟨N, rfl⟩ := Int.eq_ofNat_of_zero_le (show 0 <= n by omega);obtain ⟨h1, h2⟩ := h;rw [zqhi (by omega) (by omega)];rw [decide_eq_true ⟨h1, h2⟩] at c1;have hl := zqcb 0 N (by omega);have c2 := fun (g : Nat) (cs : Array Value) (W : World) => zqrw N 0 0 g (2 * N - 1) cs W (by omega) (by omega) (by omega) (by omega);rw [Nat.zero_add] at c2;have hmk := fun W : World => zqxf (2 * (N : Int) - 1) W (by omega) (by omega);rw [show (2 * (N : Int) - 1).toNat = 2 * N - 1 by omega] at hmk;generalize zqae 0 N = L at *;generalize 2 * N - 1 = K at *;have HL : Hid (L.length = K) := hl;clear h1 hl
 go_enter Tryz.func209, Tryz.ntmps209
 go_wp2_with fail;refine (c1 _).mono ?_
 rintro e w1 ⟨rfl, hb1⟩;obtain ⟨M, hM, hrun⟩ := hmk w1;clear c1 hmk;go_wp2_with fail;have fM : zqe (w1.alloc (.cells M 304)) w1.heap.size = some (.cells M 304) := zqg _ _ _ rfl;refine (c2 w1.heap.size M _ fM hM).mono ?_
 rintro e w2 ⟨rfl, cs, hb2, hs2, ht2⟩;have hG2 : Below w.heap.size w w2 := Grew.trans (Grew.setRow (Grew.alloc hb1 _) _ cs hb1.size) hb2;have f2 : zqe w2 w1.heap.size = some (.cells cs 304) := zqc hb2 (zqq _ fM);have hN := zqv7 f2 (L := L) (k := K) (by rw [ht2]; rfl) (Nat.le_of_eq HL.out);clear hb2 hb1 fM f2 ht2 hM hrun;go_wp2;go_ret;exact ⟨_, _, by rw [HL.out]; rfl, hN, hG2⟩
def TwoOwn (W : World) (B : Nat) (v1 : Value) (L1 : List Nd) (v2 : Value) (L2 : List Nd) : Prop :=
 W.ownsRow B 304 2 v1 L1.length (ndsL L1) /\ W.ownsRow B 304 2 v2 L2.length (ndsL L2) /\ ∀ g, v1.ownBlock = some g -> v2.ownBlock ≠ some g
theorem TwoOwn.swap {W : World} {B : Nat} {v1 v2 : Value} {L1 L2 : List Nd} (h : TwoOwn W B v1 L1 v2 L2) : TwoOwn W B v2 L2 v1 L1 := ⟨h.2.1, h.1, fun g e1 e2 => h.2.2 g e2 e1⟩
theorem zqi4 {w w' : World} {base n : Nat} {e : TypeId} {v : Value} {xs : List Value} {row : Option Nat} (h : w.ownsRow base e 2 v n xs) (hg : w.grownBy w' row) (hne : ∀ g, v.ownBlock = some g -> row ≠ some g) : w'.ownsRow base e 2 v n xs := by
 rcases h with ⟨h1, h2 | ⟨g, cap, cur, hv, hb, ho, rest⟩⟩
 ·exact ⟨h1, .inl h2⟩
 ·refine ⟨h1, .inr ⟨g, cap, cur, hv, hb, ?_, rest⟩⟩
  have hlt : g < w.heap.size := zqa (show zqe w g = _ from ho);rw [hg.block g hlt (fun e' => hne g (by rw [hv]; rfl) e'.symm)];exact ho
theorem TwoOwn.grown {W W' : World} {B : Nat} {v1 v2 : Value} {L1 L2 : List Nd} (h : TwoOwn W B v1 L1 v2 L2) (hg : W.grownBy W' none) : TwoOwn W' B v1 L1 v2 L2 :=
 ⟨zqi4 h.1 hg (fun _ _ e => by cases e), zqi4 h.2.1 hg (fun _ _ e => by cases e), h.2.2⟩
theorem TwoOwn.later {W W' : World} {B : Nat} {v1 v2 : Value} {L1 L2 : List Nd} (h : TwoOwn W B v1 L1 v2 L2) (hg : Below W.heap.size W W') : TwoOwn W' B v1 L1 v2 L2 :=
 ⟨zqey h.1 hg, zqey h.2.1 hg, h.2.2⟩
theorem zqpj {W : World} {B : Nat} {v1 v2 : Value} {L1 L2 : List Nd} (h : TwoOwn W B v1 L1 v2 L2) (ty : TypeId) (b f s : Nat) {t : TypeId} {fr : Nat × Nat} (hb : zqe W b = some (.cells #[.int .i64 f, .int .i64 s] t fr)) (hl : L1.length <= 1000) (hB : B <= W.heap.size) :
  ∃ g cap w', (zqr #[298, 298] ty #[v1, .slice (some ⟨b, 0, none⟩) 1 1]).run Tryz.prog W = .ok (.value (.slice (some ⟨g, 0, none⟩) (L1.length + 1) cap)) w' /\ TwoOwn w' B (.slice (some ⟨g, 0, none⟩) (L1.length + 1) cap) (L1 ++ [⟨f, s⟩]) v2 L2 /\ W.grownBy w' v1.ownBlock := by
 obtain ⟨i, z, hi, hz, hs, hby, hzs⟩ : ∃ i z, Tryz.prog.info? 304 = some i /\ i.zero = some z /\ i.size = 2 /\ i.bytes = 16 /\ z.cells.size = 2 := ⟨(Tryz.prog.info? 304).get zqb, ((Tryz.prog.info? 304).get zqb).zero.get zqb, by kernel_rfl, by kernel_rfl, by kernel_rfl, by kernel_rfl, by kernel_rfl⟩
 obtain ⟨g, cap, w', hr, ho, hg, hw, _⟩ := run_append_lies (P := Tryz.prog) W 298 ty B 304 i z 2 16 Tryz.underlying298 hi hz hs hby hzs (by decide) v1 L1.length (ndsL L1) h.1 ⟨b, 0, none⟩ 1 1 [.int .i64 f, .int .i64 s] rfl (fun j u hu => by
   rw [<- zqem b j];unfold zqe at hb;rw [cell_of_row W b j _ _ _ hb]
   simpa using hu) (fun u hu => by simp at hu; rcases hu with rfl | rfl <;> rfl) (by decide) (by unfold maxLen; omega) (by omega) hB W.heap.size rfl
 refine ⟨g, cap, w', by unfold zqr; simp only [Sem.run_bind, hr, Result.andThen_ok, Sem.run_pure], ⟨?_, zqi4 h.2.1 hg (fun x hx e => h.2.2 x e hx), fun x hx => ?_⟩, hg⟩
 ·rw [List.length_append, zqhu, zqoo]; exact ho
 ·obtain rfl : g = x := by simpa [Value.ownBlock] using hx
  rcases hw with hw | hw
  ·exact h.2.2 g hw
  ·intro e
   have := (h.2.1.lt g e).2
   omega
theorem TwoOwn.alloc {W : World} {B : Nat} {v1 v2 : Value} {L1 L2 : List Nd} (o : Obj) (h : TwoOwn W B v1 L1 v2 L2) : TwoOwn (W.alloc o) B v1 L1 v2 L2 := h.later (Grew.alloc (Grew.refl _) _)
theorem TwoOwn.drew {W : World} {B : Nat} {v1 v2 : Value} {L1 L2 : List Nd} (h : TwoOwn W B v1 L1 v2 L2) : TwoOwn W.drew B v1 L1 v2 L2 := h.later (Grew.drewN (Grew.refl _) 1)
theorem zqdc {w : World} {n : Nat} {o : Obj} (h : zqe w n = some o) : zqe w.drew n = some o := h
theorem Grew.drew {w w' : World} (h : Below w.heap.size w w') : Below w.heap.size w w'.drew := Grew.drewN h 1
theorem zqqm {w : World} {base m n : Nat} {e : TypeId} {v : Value} {xs : List Value} {cs : Array Value} (h : w.ownsRow base e 2 v n xs) (hm : ∀ g, v.ownBlock = some g -> g ≠ m) : (w.setRow m cs).ownsRow base e 2 v n xs := by
 rcases h with ⟨h1, h2 | ⟨g, cap, cur, hv, hg, ho, rest⟩⟩
 ·exact ⟨h1, .inl h2⟩
 ·exact ⟨h1, .inr ⟨g, cap, cur, hv, hg, zqk _ _ (show zqe w g = _ from ho) (hm g (by rw [hv]; rfl)), rest⟩⟩
theorem TwoOwn.aside {W : World} {B m : Nat} {v1 v2 : Value} {L1 L2 : List Nd} (cs : Array Value) (h : TwoOwn W B v1 L1 v2 L2) (h1 : ∀ g, v1.ownBlock = some g -> g ≠ m) (h2 : ∀ g, v2.ownBlock = some g -> g ≠ m) : TwoOwn (W.setRow m cs) B v1 L1 v2 L2 := ⟨zqqm h.1 h1, zqqm h.2.1 h2, h.2.2⟩
theorem TwoOwn.under {W : World} {B m : Nat} {v1 v2 : Value} {L1 L2 : List Nd} (cs : Array Value) (h : TwoOwn W B v1 L1 v2 L2) (hm : m < B) : TwoOwn (W.setRow m cs) B v1 L1 v2 L2 :=
 h.aside cs (fun g e => by have := (h.1.lt g e).1; omega) (fun g e => by have := (h.2.1.lt g e).1; omega)
theorem zqdo {ops : Array Oper} {o : Oper} {a : Act} {K : Act -> World -> Prop} {Q : Exit -> Act -> World -> Prop} {E : Prop} (f s : Nat) (gl : Nat) (w0 : World) (hgd : o.guard = none) (y x : Operand) (ho : o.op = .call { callee := .builtin .append, args := #[y, x], argTypes := #[298, 298] })
  {W : World} {B b : Nat} {v1 v2 : Value} {L1 L2 : List Nd} {p q : Int} {t : TypeId} {fr : Nat × Nat} (hs : a.eval y = v1) (hx : a.eval x = .slice (some ⟨b, 0, none⟩) 1 1) (T : TwoOwn W B v1 L1 v2 L2) (hb : zqe W b = some (.cells #[.int .i64 p, .int .i64 q] t fr)) (e1 : p = (f : Int)) (e2 : q = (s : Int)) (hl : L1.length <= 1000) (hB : B <= W.heap.size)
  (ho1 : ∀ k, v1.ownBlock = some k -> k < gl) (hG : Below w0.heap.size w0 W) (hw0 : w0.heap.size <= B)
  (h : ∀ g cap w', Hid (TwoOwn w' B (.slice (some ⟨g, 0, none⟩) (L1.length + 1) cap) (L1 ++ [⟨f, s⟩]) v2 L2) -> (∀ m ob, gl <= m \/ m < B -> zqe W m = some ob -> zqe w' m = some ob) -> Below w0.heap.size w0 w' -> B <= w'.heap.size -> K (a.put o.dst (.slice (some ⟨g, 0, none⟩) (L1.length + 1) cap)) w') :
  if Region.wanted o (yielded ops a.tmps) = true then Oper.wp Tryz.prog o a W K Q else E := by
 subst e1 e2;obtain ⟨i, z, hi, hz, hs', hby, hzs⟩ : ∃ i z, Tryz.prog.info? 304 = some i /\ i.zero = some z /\ i.size = 2 /\ i.bytes = 16 /\ z.cells.size = 2 := ⟨(Tryz.prog.info? 304).get zqb, ((Tryz.prog.info? 304).get zqb).zero.get zqb, by kernel_rfl, by kernel_rfl, by kernel_rfl, by kernel_rfl, by kernel_rfl⟩
 refine step_append_lies (P := Tryz.prog) (w := W) hgd y x 298 ho B 304 i z 2 16 Tryz.underlying298 hi hz hs' hby hzs (by decide) v1 L1.length (ndsL L1) hs T.1 ⟨b, 0, none⟩ 1 1 [.int .i64 f, .int .i64 s] hx rfl (fun j u hu => by
   rw [<- zqem b j];unfold zqe at hb;rw [cell_of_row W b j _ _ _ hb]
   simpa using hu) (fun u hu => by simp at hu; rcases hu with rfl | rfl <;> rfl) (by decide) (by unfold maxLen; omega) (by omega) hB W.heap.size rfl (fun g cap w' ho' hg hw _ => ?_)
 refine h g cap w' ⟨?_, zqi4 T.2.1 hg (fun x hx e => T.2.2 x e hx), fun x hx => ?_⟩ (fun m ob hm hob => ?_) (hG.grown hg hG.size (fun k hk => ?_)) (Nat.le_trans hB hg.size)
 ·rw [List.length_append, zqhu, zqoo]; exact ho'
 ·obtain rfl : g = x := by simpa [Value.ownBlock] using hx
  rcases hw with hw | hw
  ·exact T.2.2 g hw
  ·intro e
   have := (T.2.1.lt g e).2
   omega
 ·refine (hg.block m (zqa hob) fun e => ?_).trans hob
  have h3 := ho1 m e.symm;have h4 := (T.1.lt m e.symm).1
  omega
 ·have := (T.1.lt k hk).1; omega
theorem zrf9 {w w' : World} {base n : Nat} {e : TypeId} {v : Value} {xs : List Value} (h : w.ownsRow base e 2 v n xs) (hk : ∀ m o, v.ownBlock = some m -> zqe w m = some o -> zqe w' m = some o) : w'.ownsRow base e 2 v n xs := by
 rcases h with ⟨h1, h2 | ⟨g, cap, cur, hv, hb, ho, rest⟩⟩
 ·exact ⟨h1, .inl h2⟩
 ·exact ⟨h1, .inr ⟨g, cap, cur, hv, hb, hk g _ (by rw [hv]; rfl) ho, rest⟩⟩
theorem NdsAt.by {w w' : World} {oa : Option Addr} {L : List Nd} (h : NdsAt w oa L) (hk : ∀ g o ob, oa = some ⟨g, o, none⟩ -> zqe w g = some ob -> zqe w' g = some ob) : NdsAt w' oa L := by
 rcases h with h | ⟨g, o, e, hg, hl⟩
 ·exact .inl h
 ·obtain ⟨ob, hob⟩ : ∃ ob, zqe w g = some ob := ⟨w.heap[g], by unfold zqe; exact Array.getElem?_eq_getElem hg⟩
  have h2 := hk g o ob e hob;exact .inr ⟨g, o, e, zqa h2, fun i v hv => by rw [h2, <- hob]; exact hl i v hv⟩
instance : Inhabited Nd := ⟨⟨0, 0⟩⟩
def encN (v : Nd) : List Value := [.int .i64 v.f, .int .i64 v.s]
theorem zqum {base : Nat} {v : Value} {L : List Nd} (w : World) (h : w.ownsRow base 304 2 v L.length (ndsL L)) (hL : L.length <= 1000) :
  Calls Tryz.prog 236 #[v] w fun e w' => e = .returned (.tuple #[]) /\ (∃ oa c, v = .slice oa L.length c /\ L.length <= c /\ NdsAt w' oa L.reverse) /\ Below base w w' /\ (∀ m o, v.ownBlock ≠ some m -> zqe w m = some o -> zqe w' m = some o) := by
 rcases h.2 with ⟨rfl, h0⟩ | ⟨g, cap, cur, rfl, hb, hg, hnc, hcm, hcs, htake⟩
 ·refine (AnyQ.slices_Reverse_empty zq7v none 0 w).mono ?_
  rintro e w' ⟨rfl, rfl⟩;exact ⟨rfl, ⟨none, 0, by rw [h0], by omega, .inl (by cases L <;> simp_all)⟩, Below.refl _ _, fun m o _ h => h⟩
 ·have hcell : ∀ j, j < L.length * 2 -> w.cell? ⟨g, j, none⟩ = (ndsL L)[j]? := fun j hj => by
   rw [cell_of_row w g j _ _ _ hg, <- htake, List.getElem?_take, if_pos hj, Array.getElem?_toList]
  have hH : Sort.HoldsK encN 2 w g 0 L.toArray := fun j hj => by
   rw [Sort.size_flatK] at hj;have hj' : j < L.length * 2 := by simpa using hj
   refine ⟨?_, by rw [Nat.zero_add]; exact frozen_of_row w g _ _ _ hg⟩;rw [Nat.zero_add, hcell j hj', Sort.get_flatK _ _ _ _ hj];have hi : j / 2 < L.length := by omega
   obtain ⟨e1, e2⟩ := zqor L (j / 2) (L[j / 2]) (List.getElem?_eq_getElem hi);have ed : (L.toArray)[j / 2]! = L[j / 2] := by rw [getElem!_pos _ _ (by simpa using hi)]; simp
   rw [ed]
   rcases Nat.mod_two_eq_zero_or_one j with hm | hm
   ·rw [show 2 * (j / 2) = j by omega] at e1
    rw [hm, e1]; rfl
   ·rw [show 2 * (j / 2) + 1 = j by omega] at e2
    rw [hm, e2]; rfl
  have hc := AnyQ.slices_Reverse zq7v 2 Tryz.isAgg304 Tryz.sizeOf304 encN (fun _ => rfl) (fun x u hu => by simp [encN] at hu; rcases hu with rfl | rfl <;> rfl) g 0 cap L.toArray w hH (by simp; omega);rw [show L.toArray.size = L.length by simp] at hc;refine hc.mono ?_
  rintro e w' ⟨rfl, n, rfl⟩;have hH2 : Sort.HoldsK encN 2 (Sort.putRowK encN 2 (Sort.ahead w n) g 0 L.toArray.reverse) g 0 L.toArray.reverse := Sort.holdsK_putRowK encN 2 _ g 0 L.toArray _ hH (by simp);have hlt : g < w.heap.size := zqa (show zqe w g = _ from hg);refine ⟨rfl, ⟨_, _, rfl, hnc, .inr ⟨g, 0, rfl, ?_, fun i u hu => ?_⟩⟩, Lib.below_putRow (Below.refl _ _) hb, fun m o hm ho => ?_⟩
  ·show g < (Sort.putRow id (Sort.ahead w n) g 0 _).heap.size
   rw [Sort.size_putRow]; exact hlt
  ·have hi : i < L.reverse.length := (List.getElem?_eq_some_iff.1 hu).1
   have hi' : i < L.toArray.reverse.size := by simpa using hi
   have ed : L.toArray.reverse[i]! = u := by
    rw [getElem!_pos L.toArray.reverse i hi'];have := (List.getElem?_eq_some_iff.1 hu).2
    simpa using this
   have c1 := (Sort.HoldsK.cell hH2 (i := i) (c := 0) hi' (by decide)).1;have c2 := (Sort.HoldsK.cell hH2 (i := i) (c := 1) hi' (by decide)).1;rw [ed, zqhf] at c1 c2;rw [show 0 + i * 2 + 0 = 0 + 2 * i by omega] at c1;rw [show 0 + i * 2 + 1 = 0 + 2 * i + 1 by omega] at c2;exact ⟨c1, c2⟩
  ·have hne : g ≠ m := fun e => hm (by rw [e]; rfl)
   rw [<- ho];unfold zqe
   simp [Sort.putRowK, Sort.putRow, Sort.mapBlock, Sort.ahead, Array.getElem?_modify, hne]
def sliceLen : Value -> Nat
 | .slice _ n _ => n
 | _ => 0
theorem zq8y {w : World} {base n : Nat} {e : TypeId} {v : Value} {xs : List Value} (h : w.ownsRow base e 2 v n xs) : sliceLen v = n := by
 rcases h.2 with ⟨rfl, h0⟩ | ⟨g, cap, cur, rfl, _⟩
 ·subst h0; rfl
 ·rfl
theorem zqr2 (N J : Nat) (w : World) (h1 : 1 <= N) (h2 : N <= 1024) (hJ : J < N) :
  Calls Tryz.prog 230 #[.int .i64 (N : Int), .int .i64 (J : Int)] w fun e w' => ∃ oa c ob d, e = .returned (.tuple #[.slice oa (zqdy N J).length c, .slice ob (zqac N J).length d]) /\ (zqdy N J).length <= c /\ NdsAt w' oa (zqdy N J) /\ NdsAt w' ob (zqac N J) /\ Below w.heap.size w w' := by
 have c1 := fun W : World => zqgn (N : Int) W;rw [decide_eq_true (by omega)] at c1;have c2 := fun W : World => zqin 0 N (J : Int) W (by omega) (by omega) (by omega) (by omega);rw [decide_eq_true (by omega), show ((0 : Nat) : Int) = 0 from rfl] at c2;have hD0 : Hid (zqdf 0 N J = [] ++ zqdf 0 N J) := rfl;have hA0 : Hid (zqbu 0 N J = [] ++ zqbu 0 N J) := rfl;have hDl : Hid ((zqdf 0 N J).length <= 11) := by show _ <= _; rw [zqeu]; have := zqeq J 10 0 N h2; omega
 have hAl : Hid ((zqbu 0 N J).length <= 10) := zqeq J 10 0 N h2;unfold zqdy zqac;generalize hDg : zqdf 0 N J = DD at hDl hD0 ⊢;generalize hAg : zqbu 0 N J = AA at hAl hA0 ⊢;replace hD0 : Hid (DD = [] ++ zqdf 0 N J) := by show _ = _; rw [List.nil_append, hDg]
 replace hA0 : Hid (AA = [] ++ zqbu 0 N J) := by show _ = _; rw [List.nil_append, hAg]
 clear hDg hAg;have hG := Grew.refl w;have fa : True := trivial
 go_enter Tryz.func230, Tryz.ntmps230
 go_wp2_with fail;generalize hW : w.alloc (.cells #[.int .i64 (0 : Nat), .int .i64 (N : Int)] 304) = w1;replace fa : zqe w1 (w.heap.size) = some (.cells #[.int .i64 (0 : Nat), .int .i64 (N : Int)] 304) := zqs hW;replace hG : Below w.heap.size w w1 := zqam hW;clear hW;have lfa := zqa fa;go_wp2_with fail
 (refine (c1 _).mono ?_; rintro e w2 ⟨rfl, hb⟩; replace fa := zqc hb fa; have lfa := zqa fa; replace hG : Below w.heap.size w w2 := Grew.trans (by exact zqf) hb; clear hb)
 go_wp2_with fail
 (refine (c2 _).mono ?_; rintro e w3 ⟨rfl, hb⟩; replace fa := zqc hb fa; have lfa := zqa fa; replace hG : Below w.heap.size w w3 := Grew.trans (by exact zqf) hb; clear hb)
 clear c1 c2;have hz := hG.size;have T0 : TwoOwn (w3.alloc (.cells #[.int .i64 0, .int .i64 (N : Int)] 304)) (w.heap.size + 1) (.slice none 0 0) [] (.slice none 0 0) [] := ⟨World.ownsRow_nil _ _ _ _, World.ownsRow_nil _ _ _ _, fun _ e => by cases e⟩
 obtain ⟨g4, c4, w4, hr4, T4, hg4⟩ := zqpj T0 298 w3.heap.size 0 N (zqg _ _ _ rfl) (by decide) (by simp; omega);replace hr4 : (zqr #[298, 298] 298 #[.slice none 0 0, .slice (some ⟨w3.heap.size, 0, none⟩) 1 1]).run Tryz.prog (w3.alloc (.cells #[.int .i64 0, .int .i64 (N : Int)] 304)) = .ok (.value (.slice (some ⟨g4, 0, none⟩) 1 c4)) w4 := hr4;have fa4 : zqe w4 w.heap.size = some (.cells #[.int .i64 0, .int .i64 (N : Int)] 304) := (hg4.block w.heap.size (by simp; omega) (by intro e; cases e)).trans (zqj _ fa);have hG4 : Below w.heap.size w w4 := (Grew.alloc hG _).grown hg4 (by simp; omega) (fun k hk => by cases hk);clear hz T0 hg4;go_wp2_with fail;clear hr4 hG lfa fa
 go_loopw [4, 5, 7, 8] (fun p q _ _ wr => ∃ (F S : Nat) (D A : List Nd) (v1 v2 : Value), v1 = p /\ v2 = q /\ Below w.heap.size w wr /\ zqe wr w.heap.size = some (.cells #[.int .i64 (F : Int), .int .i64 (S : Int)] 304) /\ Hid (TwoOwn wr (w.heap.size + 1) v1 (D ++ [⟨F, S⟩]) v2 A) /\ Hid (1 <= S /\ F + S <= 1024 /\ F <= J /\ J < F + S) /\ Hid (DD = D ++ zqdf F S J) /\ Hid (AA = A ++ zqbu F S J)) (fun _ q _ _ _ => 20 - sliceLen q)
 case atStart => exact ⟨0, N, [], [], _, _, rfl, rfl, hG4, fa4, T4, ⟨by omega, by omega, by omega, by omega⟩, hD0, hA0⟩
 case round =>
  clear T4 hG4 fa4 hD0 hA0;obtain ⟨F, S, D, A, v1, v2, rfl, rfl, hG, fa, TT, hB, hD, hA⟩ := hrel;have lfa := zqa fa;obtain ⟨b1, b2, b3, b4⟩ := hB.out
  by_cases hS : S < 2
  ·obtain rfl : S = 1 := by omega
   have eD : Hid (D ++ [(⟨F, 1⟩ : Nd)] = DD) := by show _ = _; rw [hD.out, zqiw (by decide)]
   have eA : Hid (A = AA) := by show _ = _; rw [hA.out, zqdd (by decide), List.append_nil]
   rw [eD.out, eA.out] at TT;obtain ⟨t1, t2, t3⟩ := TT.out;have r1 := zqum wr t1 (by have := hDl.out; omega);have x3 : Hid (∀ g, v1.ownBlock = some g -> v2.ownBlock ≠ some g) := t3;have x2 : Hid (wr.ownsRow (w.heap.size + 1) 304 2 v2 AA.length (ndsL AA)) := t2;have aL : Hid (AA.length <= 1000) := by have := hAl.out; show _ <= _; omega
   clear hD hA hB TT t1 t2 t3 b1 b2 b3 b4 eD eA hDl hAl;go_wp2_with fail;refine r1.mono ?_
   rintro e w5 ⟨rfl, ⟨oa, ca, rfl, hca, hNa⟩, hb5, hk5⟩;have x5 := zrf9 x2.out (fun m o e1 e2 => hk5 m o (fun e3 => x3.out m e3 e1) e2);have r2 := zqum w5 x5 aL.out;have hG5 : Below w.heap.size w w5 := hG.trans (hb5.mono (Nat.le_succ _));have HN : Hid (NdsAt w5 oa DD.reverse) := hNa;have HC : Hid (DD.length <= ca) := hca;clear x2 hk5 x5 r1 hb5 hG hNa hca;go_wp2_with fail;refine r2.mono ?_
   rintro e w6 ⟨rfl, ⟨ob, cb, rfl, hcb, hNb⟩, hb6, hk6⟩;have hG6 : Below w.heap.size w w6 := hG5.trans (hb6.mono (Nat.le_succ _));have hNa : NdsAt w6 oa DD.reverse := HN.out.by (fun g o ob' e1 e2 => hk6 g ob' (x3.out g (by rw [e1]; rfl)) e2)
   have HM : Hid (NdsAt w6 oa DD.reverse /\ NdsAt w6 ob AA.reverse) := ⟨hNa, hNb⟩
   clear r2 hk6 hb6 hNa hNb HN hG5 hcb x3;go_wp2;go_ret2;exact ⟨oa, ca, ob, cb, by rw [List.length_reverse, List.length_reverse]; rfl, by rw [List.length_reverse]; exact HC.out, HM.out.1, HM.out.2, hG6⟩
  ·have hS1 : (1 : Int) < (S : Int) := by omega
   have hb := zqb8 (n := S) (by omega);have hlen1 : (D ++ [(⟨F, S⟩ : Nd)]).length <= 1000 := by have := hDl.out; have := congrArg List.length hD.out; simp at this ⊢; omega
   have hlen2 : A.length <= 1000 := by have := hAl.out; have := congrArg List.length hA.out; simp at this; omega
   have c3 := fun W : World => zqoi F S W (by omega) (by omega) (by omega);have c4 := fun W : World => zqin (F + zqw S) (S - zqw S) (J : Int) W (by omega) (by omega) (by omega) (by omega);rw [show ((S - zqw S : Nat) : Int) = (S : Int) - (zqw S : Int) by omega, show ((F + zqw S : Nat) : Int) = (F : Int) + (zqw S : Int) by omega] at c4;have hDL := fun h => zqfg (f := F) (s := S) (j := J) (by omega) h;have hDR := fun h => zqel (f := F) (s := S) (j := J) (by omega) h;have hAL := fun h => zqdn (f := F) (s := S) (j := J) (by omega) h;have hAR := fun h => zqc1 (f := F) (s := S) (j := J) (by omega) h;generalize zqw S = L at *;go_wp2_with fail;refine (c3 _).mono ?_
   rintro e w5 ⟨rfl, hb5⟩;have fa5 := zqc hb5 fa;have hG5 : Below w.heap.size w w5 := Grew.trans hG hb5;have T5 : TwoOwn w5 (w.heap.size + 1) v1 (D ++ [⟨F, S⟩]) v2 A := TT.out.later hb5;have o1 : Hid (∀ k, v1.ownBlock = some k -> k < w5.heap.size) := fun k hk => (T5.1.lt k hk).2;have hv2 : Hid (sliceLen v2 = A.length) := zq8y T5.2.1;have o2 : Hid (∀ k, v2.ownBlock = some k -> k < w5.heap.size) := fun k hk => (T5.2.1.lt k hk).2;have lga := zqa fa5;clear hb5 fa lfa TT c3 hG;go_wp2_with fail;have fl : zqe ((w5.alloc (.cells #[.int .i64 (F : Int), .int .i64 (L : Int)] 304)).alloc (.cells #[.int .i64 ((F : Int) + (L : Int)), .int .i64 ((S : Int) - (L : Int))] 304)) w5.heap.size = some (.cells #[.int .i64 (F : Int), .int .i64 (L : Int)] 304) := zqj _ (zqg _ _ _ rfl)
   have fr : zqe ((w5.alloc (.cells #[.int .i64 (F : Int), .int .i64 (L : Int)] 304)).alloc (.cells #[.int .i64 ((F : Int) + (L : Int)), .int .i64 ((S : Int) - (L : Int))] 304)) (w5.heap.size + 1) = some (.cells #[.int .i64 ((F : Int) + (L : Int)), .int .i64 ((S : Int) - (L : Int))] 304) := zqg _ _ _ (by simp);have fa6 : zqe ((w5.alloc (.cells #[.int .i64 (F : Int), .int .i64 (L : Int)] 304)).alloc (.cells #[.int .i64 ((F : Int) + (L : Int)), .int .i64 ((S : Int) - (L : Int))] 304)) w.heap.size = some (.cells #[.int .i64 (F : Int), .int .i64 (S : Int)] 304) := zqj _ (zqj _ fa5);have hG6 : Below w.heap.size w ((w5.alloc (.cells #[.int .i64 (F : Int), .int .i64 (L : Int)] 304)).alloc (.cells #[.int .i64 ((F : Int) + (L : Int)), .int .i64 ((S : Int) - (L : Int))] 304)) := Grew.alloc (Grew.alloc hG5 _) _
   have T6 : Hid (TwoOwn ((w5.alloc (.cells #[.int .i64 (F : Int), .int .i64 (L : Int)] 304)).alloc (.cells #[.int .i64 ((F : Int) + (L : Int)), .int .i64 ((S : Int) - (L : Int))] 304)) (w.heap.size + 1) v1 (D ++ [⟨F, S⟩]) v2 A) := T5.later (Grew.alloc (Grew.alloc (Grew.refl _) _) _);have hlr : ¬ (w5.heap.size = w5.heap.size + 1) := by omega
   have lgr : w.heap.size < w5.heap.size + 1 := by omega
   have lgl : w5.heap.size <= w5.heap.size + 1 := by omega
   generalize (w5.alloc (.cells #[.int .i64 (F : Int), .int .i64 (L : Int)] 304)).alloc (.cells #[.int .i64 ((F : Int) + (L : Int)), .int .i64 ((S : Int) - (L : Int))] 304) = w6 at *;generalize w5.heap.size + 1 = gr at *;generalize w5.heap.size = gl at *;clear fa5 hG5 T5;have lfl := zqa fl;have lfr := zqa fr;have lfa := zqa fa6;go_wp2_with fail;refine (c4 _).mono ?_
   rintro e w7 ⟨rfl, hb7⟩;have fl7 := zqc hb7 fl;have fr7 := zqc hb7 fr;have fa7 := zqc hb7 fa6;have hG7 : Below w.heap.size w w7 := Grew.trans hG6 hb7;have T7 : Hid (TwoOwn w7 (w.heap.size + 1) v1 (D ++ [⟨F, S⟩]) v2 A) := T6.out.later hb7;clear hb7 fl fr fa6 T6 hG6 c4 lfl lfr lfa;have lfl := zqa fl7;have lfr := zqa fr7;have lfa := zqa fa7
   by_cases hin : (F : Int) + (L : Int) <= (J : Int) /\ (J : Int) < (F : Int) + (L : Int) + ((S : Int) - (L : Int))
   ·rw [decide_eq_true hin]
    have hrl : ¬ (gr = gl) := fun e => hlr e.symm;have hnl : ¬ (J < F + L) := by omega
    have hB9 : Hid (1 <= S - L /\ F + L + (S - L) <= 1024 /\ F + L <= J /\ J < F + L + (S - L)) := ⟨by omega, by omega, by omega, by omega⟩
    have hD9 : Hid (DD = (D ++ [(⟨F, S⟩ : Nd)]) ++ zqdf (F + L) (S - L) J) := by show _ = _; rw [hD.out, hDR hnl]; simp
    have hA9 : Hid (AA = (A ++ [(⟨F, L⟩ : Nd)]) ++ zqbu (F + L) (S - L) J) := by show _ = _; rw [hA.out, hAR hnl]; simp
    have hAL9 : Hid (A.length < 10) := by have h := hAl.out; have h' := congrArg List.length hA9.out; simp at h'; show _ < _; omega
    clear hDL hDR hAL hAR hD hA hB;have fl8 : zqe ((w7.setRow gl #[.int .i64 ((F : Int) + (L : Int)), .int .i64 ((S : Int) - (L : Int))]).setRow gr #[.int .i64 (F : Int), .int .i64 (L : Int)]) gl = some (.cells #[.int .i64 ((F : Int) + (L : Int)), .int .i64 ((S : Int) - (L : Int))] 304) := zqk _ _ (zqq _ fl7) hlr;have fr8 : zqe ((w7.setRow gl #[.int .i64 ((F : Int) + (L : Int)), .int .i64 ((S : Int) - (L : Int))]).setRow gr #[.int .i64 (F : Int), .int .i64 (L : Int)]) gr = some (.cells #[.int .i64 (F : Int), .int .i64 (L : Int)] 304) := zqq _ (zqk _ _ fr7 hrl);have fa8 : zqe ((w7.setRow gl #[.int .i64 ((F : Int) + (L : Int)), .int .i64 ((S : Int) - (L : Int))]).setRow gr #[.int .i64 (F : Int), .int .i64 (L : Int)]) w.heap.size = some (.cells #[.int .i64 (F : Int), .int .i64 (S : Int)] 304) := zqk _ _ (zqk _ _ fa7 (by omega)) (by omega)
    have hG8 : Below w.heap.size w ((w7.setRow gl #[.int .i64 ((F : Int) + (L : Int)), .int .i64 ((S : Int) - (L : Int))]).setRow gr #[.int .i64 (F : Int), .int .i64 (L : Int)]) := Grew.setRow (Grew.setRow hG7 _ _ (by omega)) _ _ (by omega);have T8 : Hid (TwoOwn ((w7.setRow gl #[.int .i64 ((F : Int) + (L : Int)), .int .i64 ((S : Int) - (L : Int))]).setRow gr #[.int .i64 (F : Int), .int .i64 (L : Int)]) (w.heap.size + 1) v1 (D ++ [⟨F, S⟩]) v2 A) := TwoOwn.aside _ (TwoOwn.aside _ T7.out (fun g e => by have := o1.out g e; omega) (fun g e => by have := o2.out g e; omega)) (fun g e => by have := o1.out g e; omega) (fun g e => by have := o2.out g e; omega);have hz8 : w7.heap.size = ((w7.setRow gl #[.int .i64 ((F : Int) + (L : Int)), .int .i64 ((S : Int) - (L : Int))]).setRow gr #[.int .i64 (F : Int), .int .i64 (L : Int)]).heap.size := by rw [zq0, zq0]
    go_wp2_with fail;clear lfl lfr lfa;generalize (w7.setRow gl #[.int .i64 ((F : Int) + (L : Int)), .int .i64 ((S : Int) - (L : Int))]).setRow gr #[.int .i64 (F : Int), .int .i64 (L : Int)] = w8 at *;clear fl7 fr7 fa7 hG7 T7 hz8;have lfl := zqa fl8;have lfr := zqa fr8;have lfa := zqa fa8
    go_region_held3 (fun w' => zqe w' gl = some (.cells #[.int .i64 ((F : Int) + (L : Int)), .int .i64 ((S : Int) - (L : Int))] 304) /\ zqe w' gr = some (.cells #[.int .i64 (F : Int), .int .i64 (L : Int)] 304)) (first | exact ⟨fl8, fr8⟩ | (go_split_ands; exact ⟨zqj _ (by assumption), zqj _ (by assumption)⟩) | (go_split_ands; exact ⟨k1 _ _ (Or.inl (by omega)) (by assumption), k1 _ _ (Or.inl (by omega)) (by assumption)⟩) | (go_split_ands; exact ⟨k2 _ _ (Or.inl (by omega)) (by assumption), k2 _ _ (Or.inl (by omega)) (by assumption)⟩)) (first | (refine zqdo (B := w.heap.size + 1) (v2 := v2) (L1 := (D ++ [(⟨F, S⟩ : Nd)])) (L2 := A) (p := ((F : Int) + (L : Int))) (q := ((S : Int) - (L : Int))) (t := 304) (fr := (0, 0)) (F + L) (S - L) gl w rfl _ _ rfl rfl rfl ?_ ?_ (by omega) (by omega) hlen1 ?_ o1.out ?_ (Nat.le_succ _) ?_; (focus ((repeat (first | (with_reducible refine TwoOwn.alloc _ ?_) | (with_reducible refine TwoOwn.drew ?_))); exact T8.out)); (focus ((repeat (first | ((with_reducible refine zqg _ _ _ ?_); (simp; done)) | (with_reducible refine zqj _ ?_) | (with_reducible refine zqdc ?_))); done)); (focus (first | omega | (simp; omega))); (focus ((repeat (first | (with_reducible exact hG8) | (with_reducible refine Grew.alloc ?_ _) | (with_reducible refine Grew.drew ?_))); done)); intro g1 c1 w1 T1 k1 b1 z1) | (refine zqdo (B := w.heap.size + 1) (v2 := (.slice (some ⟨g2, 0, none⟩) (A.length + 1) c2)) (L1 := (D ++ [(⟨F, S⟩ : Nd)])) (L2 := (A ++ [(⟨F, L⟩ : Nd)])) (p := ((F : Int) + (L : Int))) (q := ((S : Int) - (L : Int))) (t := 304) (fr := (0, 0)) (F + L) (S - L) gl w rfl _ _ rfl rfl rfl ?_ ?_ (by omega) (by omega) hlen1 ?_ o1.out ?_ (Nat.le_succ _) ?_; (focus ((repeat (first | (with_reducible refine TwoOwn.alloc _ ?_) | (with_reducible refine TwoOwn.drew ?_))); exact T2.out.swap)); (focus ((repeat (first | ((with_reducible refine zqg _ _ _ ?_); (simp; done)) | (with_reducible refine zqj _ ?_) | (with_reducible refine zqdc ?_) | ((with_reducible refine k2 _ _ (Or.inl ?_) ?_); (focus (first | omega | (simp; omega)))))); done)); (focus (first | omega | (simp; omega))); (focus ((repeat (first | (with_reducible exact b2) | (with_reducible refine Grew.alloc ?_ _) | (with_reducible refine Grew.drew ?_))); done)); intro g1 c1 w1 T1 k1 b1 z1) | (refine zqdo (B := w.heap.size + 1) (v2 := v1) (L1 := A) (L2 := (D ++ [(⟨F, S⟩ : Nd)])) (p := (F : Int)) (q := (L : Int)) (t := 304) (fr := (0, 0)) F L gl w rfl _ _ rfl rfl rfl ?_ ?_ (by omega) (by omega) hlen2 ?_ o2.out ?_ (Nat.le_succ _) ?_; (focus ((repeat (first | (with_reducible refine TwoOwn.alloc _ ?_) | (with_reducible refine TwoOwn.drew ?_))); exact T8.out.swap)); (focus ((repeat (first | ((with_reducible refine zqg _ _ _ ?_); (simp; done)) | (with_reducible refine zqj _ ?_) | (with_reducible refine zqdc ?_))); done)); (focus (first | omega | (simp; omega))); (focus ((repeat (first | (with_reducible exact hG8) | (with_reducible refine Grew.alloc ?_ _) | (with_reducible refine Grew.drew ?_))); done)); intro g2 c2 w2 T2 k2 b2 z2) | (refine zqdo (B := w.heap.size + 1) (v2 := (.slice (some ⟨g1, 0, none⟩) ((D ++ [(⟨F, S⟩ : Nd)]).length + 1) c1)) (L1 := A) (L2 := ((D ++ [(⟨F, S⟩ : Nd)]) ++ [(⟨F + L, S - L⟩ : Nd)])) (p := (F : Int)) (q := (L : Int)) (t := 304) (fr := (0, 0)) F L gl w rfl _ _ rfl rfl rfl ?_ ?_ (by omega) (by omega) hlen2 ?_ o2.out ?_ (Nat.le_succ _) ?_; (focus ((repeat (first | (with_reducible refine TwoOwn.alloc _ ?_) | (with_reducible refine TwoOwn.drew ?_))); exact T1.out.swap)); (focus ((repeat (first | ((with_reducible refine zqg _ _ _ ?_); (simp; done)) | (with_reducible refine zqj _ ?_) | (with_reducible refine zqdc ?_) | ((with_reducible refine k1 _ _ (Or.inl ?_) ?_); (focus (first | omega | (simp; omega)))))); done)); (focus (first | omega | (simp; omega))); (focus ((repeat (first | (with_reducible exact b1) | (with_reducible refine Grew.alloc ?_ _) | (with_reducible refine Grew.drew ?_))); done)); intro g2 c2 w2 T2 k2 b2 z2))
    all_goals (
     go_split_ands
     have fa9 : zqe w2 w.heap.size = some (.cells #[.int .i64 (F : Int), .int .i64 (S : Int)] 304) := by (repeat (first | (with_reducible exact fa8) | (with_reducible refine zqj _ ?_) | (with_reducible refine zqdc ?_) | (with_reducible refine k1 _ _ (Or.inr (Nat.lt_succ_self _)) ?_) | (with_reducible refine k2 _ _ (Or.inr (Nat.lt_succ_self _)) ?_)))
     have T9 : Hid (TwoOwn w2 (w.heap.size + 1) (.slice (some ⟨g1, 0, none⟩) (D.length + 1 + 1) c1) ((D ++ [(⟨F, S⟩ : Nd)]) ++ [⟨F + L, S - L⟩]) (.slice (some ⟨g2, 0, none⟩) (A.length + 1) c2) (A ++ [⟨F, L⟩])) := by have h := T2.out.swap; rw [List.length_append] at h; exact h
     have fn9 : zqe w2 gl = some (.cells #[.int .i64 ((F : Int) + (L : Int)), .int .i64 ((S : Int) - (L : Int))] 304) := by assumption
     have T10 : Hid (TwoOwn (w2.setRow w.heap.size #[.int .i64 ((F : Int) + (L : Int)), .int .i64 ((S : Int) - (L : Int))]) (w.heap.size + 1) (.slice (some ⟨g1, 0, none⟩) (D.length + 1 + 1) c1) ((D ++ [(⟨F, S⟩ : Nd)]) ++ [(⟨F + L, S - L⟩ : Nd)]) (.slice (some ⟨g2, 0, none⟩) (A.length + 1) c2) (A ++ [(⟨F, L⟩ : Nd)])) := T9.out.under _ (Nat.lt_succ_self _);have hv : sliceLen v2 = A.length := hv2.out;have hAl9 := hAL9.out;clear k1 k2 T1 T2 o1 o2;go_wp2
     go_roundw
     case rel => exact ⟨(F + L), (S - L), D ++ [(⟨F, S⟩ : Nd)], A ++ [(⟨F, L⟩ : Nd)], _, _, rfl, rfl, Grew.setRow b2 _ _ (Nat.le_refl _), by rw [show ((F + L : Nat) : Int) = (F : Int) + (L : Int) by omega, show ((S - L : Nat) : Int) = (S : Int) - (L : Int) by omega]; exact zqq _ fa9, T10, hB9, hD9, hA9⟩
     case measure => (show 20 - (A.length + 1) < 20 - sliceLen v2; rw [hv]; omega))
   ·rw [decide_eq_false hin]
    have hnl : J < F + L := by omega
    have hB9 : Hid (1 <= L /\ F + L <= 1024 /\ F <= J /\ J < F + L) := ⟨by omega, by omega, by omega, by omega⟩
    have hD9 : Hid (DD = (D ++ [(⟨F, S⟩ : Nd)]) ++ zqdf F L J) := by show _ = _; rw [hD.out, hDL hnl]; simp
    have hA9 : Hid (AA = (A ++ [(⟨F + L, S - L⟩ : Nd)]) ++ zqbu F L J) := by show _ = _; rw [hA.out, hAL hnl]; simp
    have hAL9 : Hid (A.length < 10) := by have h := hAl.out; have h' := congrArg List.length hA9.out; simp at h'; show _ < _; omega
    clear hDL hDR hAL hAR hD hA hB;go_wp2_with fail
    go_region_held3 (fun w' => zqe w' gl = some (.cells #[.int .i64 (F : Int), .int .i64 (L : Int)] 304) /\ zqe w' gr = some (.cells #[.int .i64 ((F : Int) + (L : Int)), .int .i64 ((S : Int) - (L : Int))] 304)) (first | exact ⟨fl7, fr7⟩ | (go_split_ands; exact ⟨zqj _ (by assumption), zqj _ (by assumption)⟩) | (go_split_ands; exact ⟨k1 _ _ (Or.inl (by omega)) (by assumption), k1 _ _ (Or.inl (by omega)) (by assumption)⟩) | (go_split_ands; exact ⟨k2 _ _ (Or.inl (by omega)) (by assumption), k2 _ _ (Or.inl (by omega)) (by assumption)⟩)) (first | (refine zqdo (B := w.heap.size + 1) (v2 := v2) (L1 := (D ++ [(⟨F, S⟩ : Nd)])) (L2 := A) (p := (F : Int)) (q := (L : Int)) (t := 304) (fr := (0, 0)) F L gl w rfl _ _ rfl rfl rfl ?_ ?_ (by omega) (by omega) hlen1 ?_ o1.out ?_ (Nat.le_succ _) ?_; (focus ((repeat (first | (with_reducible refine TwoOwn.alloc _ ?_) | (with_reducible refine TwoOwn.drew ?_))); exact T7.out)); (focus ((repeat (first | ((with_reducible refine zqg _ _ _ ?_); (simp; done)) | (with_reducible refine zqj _ ?_) | (with_reducible refine zqdc ?_))); done)); (focus (first | omega | (simp; omega))); (focus ((repeat (first | (with_reducible exact hG7) | (with_reducible refine Grew.alloc ?_ _) | (with_reducible refine Grew.drew ?_))); done)); intro g1 c1 w1 T1 k1 b1 z1) | (refine zqdo (B := w.heap.size + 1) (v2 := (.slice (some ⟨g2, 0, none⟩) (A.length + 1) c2)) (L1 := (D ++ [(⟨F, S⟩ : Nd)])) (L2 := (A ++ [(⟨F + L, S - L⟩ : Nd)])) (p := (F : Int)) (q := (L : Int)) (t := 304) (fr := (0, 0)) F L gl w rfl _ _ rfl rfl rfl ?_ ?_ (by omega) (by omega) hlen1 ?_ o1.out ?_ (Nat.le_succ _) ?_; (focus ((repeat (first | (with_reducible refine TwoOwn.alloc _ ?_) | (with_reducible refine TwoOwn.drew ?_))); exact T2.out.swap)); (focus ((repeat (first | ((with_reducible refine zqg _ _ _ ?_); (simp; done)) | (with_reducible refine zqj _ ?_) | (with_reducible refine zqdc ?_) | ((with_reducible refine k2 _ _ (Or.inl ?_) ?_); (focus (first | omega | (simp; omega)))))); done)); (focus (first | omega | (simp; omega))); (focus ((repeat (first | (with_reducible exact b2) | (with_reducible refine Grew.alloc ?_ _) | (with_reducible refine Grew.drew ?_))); done)); intro g1 c1 w1 T1 k1 b1 z1) | (refine zqdo (B := w.heap.size + 1) (v2 := v1) (L1 := A) (L2 := (D ++ [(⟨F, S⟩ : Nd)])) (p := ((F : Int) + (L : Int))) (q := ((S : Int) - (L : Int))) (t := 304) (fr := (0, 0)) (F + L) (S - L) gl w rfl _ _ rfl rfl rfl ?_ ?_ (by omega) (by omega) hlen2 ?_ o2.out ?_ (Nat.le_succ _) ?_; (focus ((repeat (first | (with_reducible refine TwoOwn.alloc _ ?_) | (with_reducible refine TwoOwn.drew ?_))); exact T7.out.swap)); (focus ((repeat (first | ((with_reducible refine zqg _ _ _ ?_); (simp; done)) | (with_reducible refine zqj _ ?_) | (with_reducible refine zqdc ?_))); done)); (focus (first | omega | (simp; omega))); (focus ((repeat (first | (with_reducible exact hG7) | (with_reducible refine Grew.alloc ?_ _) | (with_reducible refine Grew.drew ?_))); done)); intro g2 c2 w2 T2 k2 b2 z2) | (refine zqdo (B := w.heap.size + 1) (v2 := (.slice (some ⟨g1, 0, none⟩) ((D ++ [(⟨F, S⟩ : Nd)]).length + 1) c1)) (L1 := A) (L2 := ((D ++ [(⟨F, S⟩ : Nd)]) ++ [(⟨F, L⟩ : Nd)])) (p := ((F : Int) + (L : Int))) (q := ((S : Int) - (L : Int))) (t := 304) (fr := (0, 0)) (F + L) (S - L) gl w rfl _ _ rfl rfl rfl ?_ ?_ (by omega) (by omega) hlen2 ?_ o2.out ?_ (Nat.le_succ _) ?_; (focus ((repeat (first | (with_reducible refine TwoOwn.alloc _ ?_) | (with_reducible refine TwoOwn.drew ?_))); exact T1.out.swap)); (focus ((repeat (first | ((with_reducible refine zqg _ _ _ ?_); (simp; done)) | (with_reducible refine zqj _ ?_) | (with_reducible refine zqdc ?_) | ((with_reducible refine k1 _ _ (Or.inl ?_) ?_); (focus (first | omega | (simp; omega)))))); done)); (focus (first | omega | (simp; omega))); (focus ((repeat (first | (with_reducible exact b1) | (with_reducible refine Grew.alloc ?_ _) | (with_reducible refine Grew.drew ?_))); done)); intro g2 c2 w2 T2 k2 b2 z2))
    all_goals (
     go_split_ands
     have fa9 : zqe w2 w.heap.size = some (.cells #[.int .i64 (F : Int), .int .i64 (S : Int)] 304) := by (repeat (first | (with_reducible exact fa7) | (with_reducible refine zqj _ ?_) | (with_reducible refine zqdc ?_) | (with_reducible refine k1 _ _ (Or.inr (Nat.lt_succ_self _)) ?_) | (with_reducible refine k2 _ _ (Or.inr (Nat.lt_succ_self _)) ?_)))
     have T9 : Hid (TwoOwn w2 (w.heap.size + 1) (.slice (some ⟨g1, 0, none⟩) (D.length + 1 + 1) c1) ((D ++ [(⟨F, S⟩ : Nd)]) ++ [⟨F, L⟩]) (.slice (some ⟨g2, 0, none⟩) (A.length + 1) c2) (A ++ [⟨F + L, S - L⟩])) := by have h := T2.out.swap; rw [List.length_append] at h; exact h
     have fn9 : zqe w2 gl = some (.cells #[.int .i64 (F : Int), .int .i64 (L : Int)] 304) := by assumption
     have T10 : Hid (TwoOwn (w2.setRow w.heap.size #[.int .i64 (F : Int), .int .i64 (L : Int)]) (w.heap.size + 1) (.slice (some ⟨g1, 0, none⟩) (D.length + 1 + 1) c1) ((D ++ [(⟨F, S⟩ : Nd)]) ++ [(⟨F, L⟩ : Nd)]) (.slice (some ⟨g2, 0, none⟩) (A.length + 1) c2) (A ++ [(⟨F + L, S - L⟩ : Nd)])) := T9.out.under _ (Nat.lt_succ_self _);have hv : sliceLen v2 = A.length := hv2.out;have hAl9 := hAL9.out;clear k1 k2 T1 T2 o1 o2;go_wp2
     go_roundw
     case rel => exact ⟨F, L, D ++ [(⟨F, S⟩ : Nd)], A ++ [(⟨F + L, S - L⟩ : Nd)], _, _, rfl, rfl, Grew.setRow b2 _ _ (Nat.le_refl _), zqq _ fa9, T10, hB9, hD9, hA9⟩
     case measure => (show 20 - (A.length + 1) < 20 - sliceLen v2; rw [hv]; omega))
theorem zqm6 (n j : Int) (w : World) (hj0 : -9223372036854775808 <= j) (hj1 : j <= 9223372036854775807) :
  Calls Tryz.prog 230 #[.int .i64 n, .int .i64 j] w fun e w' => ∃ oa c ob d, e = .returned (.tuple #[.slice oa (zqi0 n j).length c, .slice ob (zqb6 n j).length d]) /\ (zqi0 n j).length <= c /\ NdsAt w' oa (zqi0 n j) /\ NdsAt w' ob (zqb6 n j) /\ Below w.heap.size w w' := by
 by_cases hv : 1 <= n /\ n <= 1024 /\ 0 <= j /\ j < n
 case pos =>
  obtain ⟨N, rfl⟩ := Int.eq_ofNat_of_zero_le (show 0 <= n by omega);obtain ⟨J, rfl⟩ := Int.eq_ofNat_of_zero_le (show 0 <= j by omega);have e : zqb6 N J = zqac N J := by unfold zqb6; rw [if_pos hv]; rfl
  rw [zqh3 (by omega) (by omega) (by omega), e];exact zqr2 N J w (by omega) (by omega) (by omega)
 have e : zqb6 n j = [] := by unfold zqb6; rw [if_neg hv]
 rw [zq0e hv, e];clear e;have c1 := fun W : World => zqgn n W
 by_cases hk : 1 <= n /\ n <= 1024
 case neg =>
  rw [decide_eq_false hk] at c1;have hG := Grew.refl w;have fa : True := trivial
  go_enter Tryz.func230, Tryz.ntmps230
  go_wp2_with fail;generalize hW : w.alloc (.cells #[.int .i64 (0 : Int), .int .i64 n] 304) = w1;replace fa : zqe w1 (w.heap.size) = some (.cells #[.int .i64 (0 : Int), .int .i64 n] 304) := zqs hW;replace hG : Below w.heap.size w w1 := zqam hW;clear hW;have lfa := zqa fa;go_wp2_with fail
  (refine (c1 _).mono ?_; rintro e w2 ⟨rfl, hb⟩; replace fa := zqc hb fa; have lfa := zqa fa; replace hG : Below w.heap.size w w2 := Grew.trans (by exact zqf) hb; clear hb)
  go_wp2;go_ret2;exact ⟨none, 0, none, 0, rfl, Nat.le_refl _, .inl rfl, .inl rfl, hG⟩
 rw [decide_eq_true hk] at c1;obtain ⟨N, rfl⟩ := Int.eq_ofNat_of_zero_le (show 0 <= n by omega);have c2 := fun W : World => zqin 0 N j W (by omega) (by omega) hj0 hj1;rw [decide_eq_false (by omega), show ((0 : Nat) : Int) = 0 from rfl] at c2;have hG := Grew.refl w;have fa : True := trivial
 go_enter Tryz.func230, Tryz.ntmps230
 go_wp2_with fail;generalize hW : w.alloc (.cells #[.int .i64 (0 : Int), .int .i64 (N : Int)] 304) = w1;replace fa : zqe w1 (w.heap.size) = some (.cells #[.int .i64 (0 : Int), .int .i64 (N : Int)] 304) := zqs hW;replace hG : Below w.heap.size w w1 := zqam hW;clear hW;have lfa := zqa fa;go_wp2_with fail
 (refine (c1 _).mono ?_; rintro e w2 ⟨rfl, hb⟩; replace fa := zqc hb fa; have lfa := zqa fa; replace hG : Below w.heap.size w w2 := Grew.trans (by exact zqf) hb; clear hb)
 go_wp2_with fail
 (refine (c2 _).mono ?_; rintro e w3 ⟨rfl, hb⟩; replace fa := zqc hb fa; have lfa := zqa fa; replace hG : Below w.heap.size w w3 := Grew.trans (by exact zqf) hb; clear hb)
 go_wp2;go_ret2;exact ⟨none, 0, none, 0, rfl, Nat.le_refl _, .inl rfl, .inl rfl, hG⟩
theorem zqrb (n j : Int) (w : World) (hj0 : -9223372036854775808 <= j) (hj1 : j <= 9223372036854775807) :
  Calls Tryz.prog 224 #[.int .i64 n, .int .i64 j] w (zq9w w (zqi0 n j)) := by
 have c1 := fun W : World => zqm6 n j W hj0 hj1;generalize zqi0 n j = P at *;generalize zqb6 n j = C at *;have hG := Grew.refl w
 go_enter Tryz.func224, Tryz.ntmps224
 go_wp2_with fail;refine (c1 _).mono ?_
 rintro e w1 ⟨oa, c, ob, d, rfl, hc, hP, hC, hb⟩;have HP : Hid (P.length <= c /\ NdsAt w1 oa P /\ NdsAt w1 ob C) := ⟨hc, hP, hC⟩
 clear hc hP hC c1;go_wp2;go_ret;exact ⟨oa, c, rfl, HP.out.1, HP.out.2.1, hb⟩
theorem zqly (n j : Int) (w : World) (hj0 : -9223372036854775808 <= j) (hj1 : j <= 9223372036854775807) :
  Calls Tryz.prog 217 #[.int .i64 n, .int .i64 j] w (zqqb w (zqb6 n j)) := by
 have c1 := fun W : World => zqm6 n j W hj0 hj1;generalize zqi0 n j = P at *;generalize zqb6 n j = C at *;have hG := Grew.refl w
 go_enter Tryz.func217, Tryz.ntmps217
 go_wp2_with fail;refine (c1 _).mono ?_
 rintro e w1 ⟨oa, c, ob, d, rfl, hc, hP, hC, hb⟩;have HP : Hid (P.length <= c /\ NdsAt w1 oa P /\ NdsAt w1 ob C) := ⟨hc, hP, hC⟩
 clear hc hP hC c1;go_wp2;go_ret;exact ⟨ob, d, rfl, HP.out.2.2, hb⟩
theorem zqm9 (n j : Int) (w : World) (hj0 : -9223372036854775808 <= j) (hj1 : j <= 9223372036854775807) :
  Calls Tryz.prog 214 #[.int .i64 n, .int .i64 j] w (Rt w (.int .i64 (if 1 <= n /\ n <= 1024 then ((zqi0 n j).length : Int) - 1 else 0))) := by
 have c1 := fun W : World => zqrb n j W hj0 hj1;have c0 := fun W : World => zqgn n W;have hle := zrbe n j;generalize zqi0 n j = L at *
 by_cases h : 1 <= n /\ n <= 1024
 case neg =>
  rw [if_neg h];rw [decide_eq_false h] at c0;clear c1
  go_enter Tryz.func214, Tryz.ntmps214
  go_wp2_with fail;refine (c0 _).mono ?_
  rintro e w1 ⟨rfl, hb⟩;go_wp2;go_ret;exact ⟨rfl, hb⟩
 rw [if_pos h];rw [decide_eq_true h] at c0;obtain ⟨h1, h2⟩ := h
 go_enter Tryz.func214, Tryz.ntmps214
 go_wp2_with fail;refine (c0 _).mono ?_
 rintro e w1 ⟨rfl, hb1⟩;clear c0;go_wp2_with fail;refine (c1 _).mono ?_
 rintro e w2 ⟨oa, c, rfl, hc, hN, hb⟩;have hG2 : Below w.heap.size w w2 := Grew.trans hb1 hb;clear hc hN c1 hb hb1;go_wp2;go_ret;exact ⟨rfl, hG2⟩
theorem allC : AllC := fun n W => zqvi n W
end Go.Proofs.YtfglcifnjaknnaaGreatDoor
