/- Wv -/
import Derived.Maps.OwnIn
import Derived.Test.YtihoodeaaamlfaaGreatDoorC16
import Derived.Test.YtihoodeaaamlfaaGreatDoorR10
import Derived.Maps.OwnSet
import Derived.Test.YtihoodeaaamlfaaGreatDoorE15
import Derived.Test.YtihoodeaaamlfaaGreatDoorDh
import Derived.Test.YtihoodeaaamlfaaGreatDoorSk
import Derived.Test.YtihoodeaaamlfaaGreatDoorR12
import Derived.Test.YtihoodeaaamlfaaGreatDoorFrame
set_option linter.unusedVariables false
set_option linter.unusedSimpArgs false
set_option maxRecDepth 100000
set_option maxHeartbeats 4000000
namespace Go.Proofs.YtihoodeaaamlfaaGreatDoor
open Go.RowKit Go.Maps
attribute [local go_sem] Oper.semAt_some
def klit (v : Int) : Lit := .int .u32 v
theorem zqs (v : Int) : WideAt.IsKeyLit (klit v) := by unfold klit; simp [WideAt.IsKeyLit]
theorem zqt {a b : Int} (h : klit a = klit b) : a = b := by unfold klit at h; cases h; rfl
end Go.Proofs.YtihoodeaaamlfaaGreatDoor
namespace Go.Proofs.YtihoodeaaamlfaaGreatDoor
open Go.RowKit Go.Maps
def hR (v : Value) : Option (DataW Value × List MemPlace) := some (.held v, [])
theorem zqb0 {x : Int} (h0 : 0 <= x) (h1 : x < 4294967296) : (Lit.int .u32 x).wf = true := by simp [Lit.wf, IntKind.min, IntKind.max, IntKind.signed, IntKind.bits]; omega
theorem zqx {x : Int} (h : 0 <= x /\ x < 4294967296) : keyOf Tryz.prog 27 (.int .u32 x) = some (klit x) := keyOf_int_mk Tryz.underlying27 (zqb0 h.1 h.2)
theorem LK : Keyed Tryz.prog 27 := int_keyed Tryz.underlying27
def Sm (w : World) (b : Nat) (D : DataW Value) : Prop := w.ownsMap Tryz.prog 27 hR b (Maps.size D) D
def SOk (S : DataW Value) (F : Int -> Nat -> Int) : Prop := ∀ v, S.atKey (klit v) (.held (.agg (ints .u8 32 nought))) = .held (.agg (ints .u8 32 (F v)))
def UOk (U : DataW Value) : Prop := ∀ v, U.atKey (klit v) (.held (.bool false)) = .held (.bool (Maps.has U (klit v)))
theorem tight {w : World} {b n : Nat} {D : DataW Value} (h : w.ownsMap Tryz.prog 27 hR b n D) : Sm w b D := by
 obtain ⟨es, clock, h1, h2, h3, rfl⟩ := h;refine ⟨es, clock, h1, h2, ?_, rfl⟩
 simp [Maps.size, length_sorted]
theorem Sm.later {w w' : World} {b : Nat} {D : DataW Value} (h : Sm w b D) (hb : w'.heap[b]? = w.heap[b]?) : Sm w' b D := by
 obtain ⟨es, clock, h1, h2⟩ := h;exact ⟨es, clock, hb.trans h1, h2⟩
theorem Sm.drew {w : World} {b : Nat} {D : DataW Value} (h : Sm w b D) : Sm w.drew b D := h
theorem zq2 {v : Value} {d : DataW Value} {ps : List MemPlace} {x : Value} (h : hR v = some (d, ps)) (e : d = .held x) : v = x := by
 subst e
 cases h
 rfl
theorem zqbq {w : World} {b : Nat} {S : DataW Value} {F : Int -> Nat -> Int} (h : Sm w b S) (hS : SOk S F) {x : Int} (hx : 0 <= x /\ x < 4294967296) :
  (Instr.lookup 44 (.map (some b)) (.int .u32 x) false).run Tryz.prog w = .ok (.agg (ints .u8 32 (F x))) w := by
 obtain ⟨v, ps, hr, hv⟩ := World.ownsMap.lookup h LK Tryz.underlying44 (zero_key w) (zd := .held (.agg (ints .u8 32 nought))) rfl (zqx hx);rw [hr, zq2 hv (hS x)]
theorem zqbw {w : World} {b : Nat} {S : DataW Value} {F : Int -> Nat -> Int} (h : Sm w b S) (hS : SOk S F) {x : Int} (hx : 0 <= x /\ x < 4294967296) :
  (Instr.lookup 44 (.map (some b)) (.int .u32 x) true).run Tryz.prog w = .ok (.tuple #[.agg (ints .u8 32 (F x)), .bool (Maps.has S (klit x))]) w := by
 obtain ⟨v, ps, hr, hv⟩ := World.ownsMap.look_ok h LK Tryz.underlying44 (zero_key w) (zd := .held (.agg (ints .u8 32 nought))) rfl (zqx hx);rw [hr, zq2 hv (hS x)]
theorem zqax (w : World) : (zeroValue 4).run Tryz.prog w = .ok (.bool false) w := by kernel_rfl
theorem zqao {w : World} {b : Nat} {U : DataW Value} (h : Sm w b U) (hU : UOk U) {x : Int} (hx : 0 <= x /\ x < 4294967296) :
  (Instr.lookup 26 (.map (some b)) (.int .u32 x) false).run Tryz.prog w = .ok (.bool (Maps.has U (klit x))) w := by
 obtain ⟨v, ps, hr, hv⟩ := World.ownsMap.lookup h LK Tryz.underlying26 (zqax w) (zd := .held (.bool false)) rfl (zqx hx);rw [hr, zq2 hv (hU x)]
structure Bz (B : List Nat) (w w' : World) : Prop where
 os : w'.os = w.os
 tape : w'.tape = w.tape
 output : w'.output = w.output
 size : w.heap.size <= w'.heap.size
 block : ∀ k, k < w.heap.size -> k ∉ B -> w'.heap[k]? = w.heap[k]?
theorem Bz.of {w w' : World} (B : List Nat) (h : Below w.heap.size w w') : Bz B w w' := ⟨h.os, h.tape, h.output, h.size, fun k hk _ => h.block k hk⟩
theorem Bz.trans {B : List Nat} {a b c : World} (h : Bz B a b) (k : Bz B b c) : Bz B a c :=
 ⟨k.os.trans h.os, k.tape.trans h.tape, k.output.trans h.output, Nat.le_trans h.size k.size, fun i hi hn => (k.block i (Nat.lt_of_lt_of_le hi h.size) hn).trans (h.block i hi hn)⟩
theorem Bz.grown {B : List Nat} {w w' : World} {b : Nat} (h : w.grownBy w' (some b)) (hb : b ∈ B) : Bz B w w' := ⟨h.os, h.tape, h.output, h.size, fun k hk hn => h.block k hk (fun e => hn (by cases e; exact hb))⟩
theorem Bz.below {B : List Nat} {n : Nat} {a w w' : World} (h : Below n a w) (k : Bz B w w') (hn : n <= w.heap.size) (hB : ∀ i ∈ B, n <= i) : Below n a w' :=
 h.trans ⟨k.os, k.tape, k.output, k.size, fun i hi => k.block i (by omega) (fun hm => by have := hB i hm; omega)⟩
theorem Bz.sub {B B2 : List Nat} {w w' : World} (h : Bz B w w') (hs : ∀ x ∈ B, x ∈ B2) : Bz B2 w w' := ⟨h.os, h.tape, h.output, h.size, fun k hk hn => h.block k hk (fun hm => hn (hs k hm))⟩
theorem Bz.keep {B : List Nat} {w w' : World} (h : Bz B w w') {k : Nat} {o : Obj} (hk : objAt w k = some o) (hn : k ∉ B) : objAt w' k = some o := (h.block k (lt_of_objAt hk) hn).trans hk
theorem Bz.map {B : List Nat} {w w' : World} (h : Bz B w w') {k : Nat} {D : DataW Value} (hk : Sm w k D) (hn : k ∉ B) : Sm w' k D := hk.later (h.block k (World.ownsMap.lt hk) hn)
theorem zqaq {t e : TypeId} {w : World} {b : Nat} {D : DataW Value} (ht : Tryz.prog.underlying t = some (.map 27 e)) (h : Sm w b D) (hn : Maps.size D < 1000000000) {x : Int} (hx : 0 <= x /\ x < 4294967296) (v : Value) :
  ∃ w', (Instr.mapUpdate t (.map (some b)) (.int .u32 x) v).run Tryz.prog w = .ok () w' /\ Sm w' b (D.put (klit x) (.held v)) /\ Bz [b] w w' := by
 obtain ⟨w', h1, h2, h3⟩ := World.ownsMap.update h LK ht (by unfold maxLen; omega) (zqx hx) (show hR v = some (.held v, []) from rfl);exact ⟨w', h1, tight h2, Bz.grown h3 (by simp)⟩
theorem zqci {t e : TypeId} {w : World} {b : Nat} {D : DataW Value} (ht : Tryz.prog.underlying t = some (.map 27 e)) (h : Sm w b D) {x : Int} (hx : 0 <= x /\ x < 4294967296) (ty : TypeId) :
  ∃ w', (Builtin.delete_ #[t, 27] ty #[.map (some b), .int .u32 x]).run Tryz.prog w = .ok (.tuple #[]) w' /\ Sm w' b (D.del (klit x)) /\ Bz [b] w w' := by
 obtain ⟨w', h1, h2, h3⟩ := World.ownsMap.drop h LK ht (zqx hx) ty;exact ⟨w', h1, tight h2, Bz.grown h3.grown (by simp)⟩
def updF (F : Int -> Nat -> Int) (x : Int) (k : Nat -> Int) : Int -> Nat -> Int := fun y => if y = x then k else F y
theorem SOk.put {S : DataW Value} {F : Int -> Nat -> Int} (h : SOk S F) (hm : IsMap S) (x : Int) (k : Nat -> Int) : SOk (S.put (klit x) (.held (.agg (ints .u8 32 k)))) (updF F x k) := fun v => by
 unfold updF
 by_cases e : v = x
 ·subst e
  rw [atKey_put_same hm (zqs _), if_pos rfl]
 ·rw [atKey_put_other (fun h => e (zqt h)), if_neg e, h v]
theorem SOk.del {S : DataW Value} {F : Int -> Nat -> Int} (h : SOk S F) (x : Int) : SOk (S.del (klit x)) (updF F x nought) := fun v => by
 unfold updF
 by_cases e : v = x
 ·subst e
  rw [atKey_del_same, if_pos rfl]
 ·rw [atKey_del_other (fun h => e (zqt h)), if_neg e, h v]
theorem UOk.put {U : DataW Value} (h : UOk U) (hm : IsMap U) (x : Int) : UOk (U.put (klit x) (.held (.bool true))) := fun v => by
 by_cases e : v = x
 ·subst e
  rw [atKey_put_same hm (zqs _), has_put_same hm (zqs _)]
 ·rw [atKey_put_other (fun h => e (zqt h)), has_put_other (fun h => e (zqt h)), h v]
theorem zq8 {w : World} {g : Nat} {s : ByteArray} {F : Int} (h : objAt w g = some (.cells #[.string s, .iface 38 (.int .i64 F)] 56)) (hF : F ≠ 0) : ErV w (.iface 54 (.pointer (some ⟨g, 0, none⟩))) F := .inr ⟨hF, _, _, [s], rfl, g, _, rfl, h, rfl⟩
theorem zqk {w : World} {g : Nat} {c : Array Value} {t : TypeId} (hg : objAt w g = some (.cells c t)) (ht : t ≠ 56) (cs : Array Value) : ∀ {l : List ByteArray} {b v : Value}, Chn w l b v -> Chn (w.setRow g cs) l b v
 | [], _, _, h => h
 | s :: l, b, v, ⟨k, u, e, hk, hu⟩ => ⟨k, u, e, keep_setRow g cs hk (fun e => by rw [e, hg] at hk; exact ht (Obj.cells.inj (Option.some.inj hk)).2.1), zqk hg ht cs hu⟩
theorem zqz {w : World} {g : Nat} {c : Array Value} {t : TypeId} (hg : objAt w g = some (.cells c t)) (cs : Array Value) (ht : t ≠ 56) {v : Value} {E : Int} (h : ErV w v E) : ErV (w.setRow g cs) v E := by
 rcases h with h | ⟨h0, t, x, l, e, hc⟩
 ·exact .inl h
 ·exact .inr ⟨h0, t, x, l, e, zqk hg ht cs hc⟩
structure VAt (w : World) (b bs bu : Nat) (S U : DataW Value) (F : Int -> Nat -> Int) : Prop where
 o : objAt w b = some (.cells #[.map (some bs), .map (some bu)] 46 (0, 0))
 s : Sm w bs S
 u : Sm w bu U
 ne : bs ≠ bu
 hS : SOk S F
 hU : UOk U
theorem VAt.nb {w : World} {b bs bu : Nat} {S U : DataW Value} {F : Int -> Nat -> Int} (h : VAt w b bs bu S U F) : b ≠ bs /\ b ≠ bu := by
 obtain ⟨es, c, h1, -⟩ := h.s;obtain ⟨es', c', h2, -⟩ := h.u;have h0 : w.heap[b]? = _ := h.o;exact ⟨fun e => (by rw [e, h1] at h0; cases h0), fun e => (by rw [e, h2] at h0; cases h0)⟩
theorem VAt.later {w w' : World} {b bs bu : Nat} {S U : DataW Value} {F : Int -> Nat -> Int} (h : VAt w b bs bu S U F) (hb : Below w.heap.size w w') : VAt w' b bs bu S U F :=
 ⟨keep_below hb h.o, h.s.later (hb.block _ (World.ownsMap.lt h.s)), h.u.later (hb.block _ (World.ownsMap.lt h.u)), h.ne, h.hS, h.hU⟩
theorem VAt.row {w : World} {b bs bu : Nat} {S U : DataW Value} {F : Int -> Nat -> Int} (h : VAt w b bs bu S U F) {g : Nat} {c : Array Value} (hg : objAt w g = some (.cells c 29)) (cs : Array Value) : VAt (w.setRow g cs) b bs bu S U F := by
 have n1 : ∀ k (D : DataW Value), Sm w k D -> k ≠ g := fun k D ⟨es, c, h1, _⟩ e => by
  unfold objAt at hg;rw [<- e, h1] at hg
  cases hg
 have n2 : b ≠ g := fun e => by
  have := h.o;rw [e, hg] at this
  cases this
 have hh : ∀ k, k ≠ g -> (w.setRow g cs).heap[k]? = w.heap[k]? := fun k hk => objAt_setRow_ne w g k cs hk;exact ⟨keep_setRow g cs h.o n2, h.s.later (hh _ (n1 _ _ h.s)), h.u.later (hh _ (n1 _ _ h.u)), h.ne, h.hS, h.hU⟩
theorem Bz.row {B : List Nat} {w w' : World} (h : Bz B w w') {g : Nat} {c : Array Value} {t : TypeId} {fr : Nat × Nat} (hg : objAt w' g = some (.cells c t fr)) (cs : Array Value) (hn : w.heap.size <= g) : Bz B w (w'.setRow g cs) :=
 ⟨h.os, h.tape, h.output, by rw [size_setRow']; exact h.size, fun k hk hm => (objAt_setRow_ne w' g k cs (by omega)).trans (h.block k hk hm)⟩
theorem lenM {t e : TypeId} {w : World} {b : Nat} {D : DataW Value} (ht : Tryz.prog.underlying t = some (.map 27 e)) (h : Sm w b D) (ty : TypeId) : (Builtin.len_ #[t] ty #[.map (some b)]).run Tryz.prog w = .ok (.int .i64 (Maps.size D)) w := World.ownsMap.len h ht ty
theorem zqa7 (w : World) : Calls Tryz.prog 5 #[] w fun e w' => ∃ b bs bu, e = .returned (.pointer (some ⟨b, 0, none⟩)) /\ VAt w' b bs bu (.map []) (.map []) (fun _ => nought) /\ (w.heap.size <= b /\ w.heap.size <= bs /\ w.heap.size <= bu) /\ Below w.heap.size w w' := by
 have hmm := @run_makeMap Tryz.prog
 go_enter Tryz.func5, Tryz.ntmps5
 go_wp2;go_ret;refine ⟨_, w.heap.size, w.heap.size + 1, rfl, ⟨objAt_alloc_at _ _ _ (by first | rfl | simp), ?_, ?_, by omega, fun _ => rfl, fun _ => rfl⟩, ⟨by first | omega | simp | (simp; omega), by omega, by omega⟩, Grew.alloc (Grew.alloc (Grew.alloc (Grew.refl _) _) _) _⟩
 ·exact World.ownsMap.alloc (World.ownsMap.alloc (World.ownsMap_made w _ _ _) _) _
 ·have := World.ownsMap.alloc (World.ownsMap_made (w.alloc (.map #[] 0)) Tryz.prog 27 hR) (.cells #[.map (some w.heap.size), .map (some (w.heap.size + 1))] 46)
  rw [show (w.alloc (.map #[] 0)).heap.size = w.heap.size + 1 by simp] at this;exact this
theorem zq1 {w : World} {b bs bu : Nat} {S U : DataW Value} {F : Int -> Nat -> Int} (h : VAt w b bs bu S U F) {x : Int} (hx : 0 <= x /\ x < 4294967296) :
  Calls Tryz.prog 14 #[.pointer (some ⟨b, 0, none⟩), .int .u32 x] w (Rt w (.bool (Maps.has S (klit x)))) := by
 have l := zqbw h.s h.hS hx;have fo := h.o;have lo := lt_of_objAt fo;clear h
 go_enter Tryz.func14, Tryz.ntmps14
 go_wp2;go_ret;exact ⟨rfl, Grew.alloc (Grew.refl _) _⟩
def pkE (S U : DataW Value) (x : Int) : Int := if Maps.has U (klit x) then 11 else if Maps.has S (klit x) then 0 else 10
theorem zqg {w : World} {b bs bu : Nat} {S U : DataW Value} {F : Int -> Nat -> Int} (h : VAt w b bs bu S U F) {x : Int} (hx : 0 <= x /\ x < 4294967296) :
  Calls Tryz.prog 9 #[.pointer (some ⟨b, 0, none⟩), .int .u32 x] w fun e w' => ∃ u, e = .returned (.tuple #[.agg (ints .u8 32 (if pkE S U x = 0 then F x else nought)), u]) /\ ErV w' u (pkE S U x) /\ Below w.heap.size w w' := by
 have hG := Grew.alloc (Grew.refl w) (.cells (ints .u8 32 nought) 29);have H1 := h.later hG;have fr : objAt (w.alloc (.cells (ints .u8 32 nought) 29)) w.heap.size = some (.cells (ints .u8 32 nought) 29) := objAt_alloc_at _ _ _ rfl;have fo := H1.o;have lo := lt_of_objAt fo;have lr := lt_of_objAt fr;have l1 := zqao H1.u H1.hU hx;clear h;have cH := zq1 H1 hx
 rcases hu : Maps.has U (klit x) with _ | _
 ·rw [hu] at l1
  rcases hs : Maps.has S (klit x) with _ | _
  ·have e1 : pkE S U x = 10 := by unfold pkE; rw [hu, hs]; rfl
   rw [hs] at cH;rw [e1, if_neg (by decide)]
   go_enter Tryz.func9, Tryz.ntmps9
   go_wp2_with fail;refine cH.mono ?_
   rintro e w2 ⟨rfl, hb⟩;have H2 := H1.later hb;have fr2 := keep_below hb fr;have lr2 := lt_of_objAt fr2;have fo2 := H2.o;have lo2 := lt_of_objAt fo2;have hG2 := Grew.trans hG hb;have l2 := zqbq H2.s H2.hS hx;clear H1 fr lr fo lo l1;go_wp2_with fail;refine (wrap_any _ _ _ _).mono ?_
   rintro e w3 ⟨rfl, rfl⟩;go_wp2;refine ret_key_tmp rfl _ 29 (ints .u8 32 nought) (0, 0) _ _ rfl rfl (keep_alloc _ (keep_row _ fr2)) Tryz.underlying29 rfl (by rw [ints_size]; kernel_rfl) rfl ⟨_, rfl, zq8 (F := 10) (objAt_alloc_at _ _ _ (by simp)) (by decide), by exact grew_auto⟩
  ·have e1 : pkE S U x = 0 := by unfold pkE; rw [hu, hs]; rfl
   rw [hs] at cH;rw [e1, if_pos rfl]
   go_enter Tryz.func9, Tryz.ntmps9
   go_wp2_with fail;refine cH.mono ?_
   rintro e w2 ⟨rfl, hb⟩;have H2 := H1.later hb;have fr2 := keep_below hb fr;have lr2 := lt_of_objAt fr2;have fo2 := H2.o;have lo2 := lt_of_objAt fo2;have hG2 := Grew.trans hG hb;have l2 := zqbq H2.s H2.hS hx;clear H1 fr lr fo lo l1;go_wp2;refine ret_key_tmp rfl _ 29 (ints .u8 32 (F x)) (0, 0) _ _ rfl rfl (keep_row _ fr2) Tryz.underlying29 rfl (by rw [ints_size]; kernel_rfl) rfl ⟨_, rfl, .inl ⟨rfl, rfl⟩, by exact grew_auto⟩
 ·rw [hu] at l1
  have e1 : pkE S U x = 11 := by unfold pkE; rw [hu]; rfl
  rw [e1, if_neg (by decide)];clear cH
  go_enter Tryz.func9, Tryz.ntmps9
  go_wp2_with fail;refine (wrap_any _ _ _ _).mono ?_
  rintro e w3 ⟨rfl, rfl⟩;go_wp2;refine ret_key_tmp rfl _ 29 (ints .u8 32 nought) (0, 0) _ _ rfl rfl (keep_alloc _ fr) Tryz.underlying29 rfl (by rw [ints_size]; kernel_rfl) rfl ⟨_, rfl, zq8 (F := 11) (objAt_alloc_at _ _ _ (by simp)) (by decide), by exact grew_auto⟩
theorem zqay (p : Value) (x E : Int) (w : World) (hE : E ≠ 0) (hp : ∀ W, Below w.heap.size w W -> Calls Tryz.prog 9 #[p, .int .u32 x] W fun e w' => ∃ u, e = .returned (.tuple #[.agg (ints .u8 32 nought), u]) /\ ErV w' u E /\ Below W.heap.size W w') :
  Calls Tryz.prog 7 #[p, .int .u32 x] w fun e w' => ∃ u, e = .returned (.tuple #[.agg (ints .u8 32 nought), u]) /\ ErV w' u E /\ Below w.heap.size w w' := by
 have hG := Grew.alloc (Grew.refl w) (.cells (ints .u8 32 nought) 29);have fr : objAt (w.alloc (.cells (ints .u8 32 nought) 29)) w.heap.size = some (.cells (ints .u8 32 nought) 29) := objAt_alloc_at _ _ _ rfl;have cP := hp _ hG
 go_enter Tryz.func7, Tryz.ntmps7
 go_wp2_with fail;refine cP.mono ?_
 rintro e w2 ⟨u, rfl, hu, hb⟩;obtain ⟨t, y, l, rfl, hc⟩ := (hu.resolve_left (fun h => hE h.1)).2;have fr2 := keep_below hb fr;have lr2 := lt_of_objAt fr2;have hG2 := Grew.trans hG hb;go_wp2;refine ret_key_tmp rfl _ 29 (ints .u8 32 nought) (0, 0) _ _ rfl rfl (keep_alloc _ (keep_row _ fr2)) Tryz.underlying29 rfl (by rw [ints_size]; kernel_rfl) rfl ⟨_, rfl, (zqz fr2 _ (by decide) hu).later (Grew.alloc (Grew.refl _) _), by exact grew_auto⟩
theorem zqa3 {w : World} {b bs bu : Nat} {S U : DataW Value} {F : Int -> Nat -> Int} (h : VAt w b bs bu S U F) {x : Int} (hx : 0 <= x /\ x < 4294967296) (h0 : pkE S U x = 0) (hn : Maps.size U < 1000000000) :
  Calls Tryz.prog 7 #[.pointer (some ⟨b, 0, none⟩), .int .u32 x] w fun e w' => e = .returned (.tuple #[.agg (ints .u8 32 (F x)), .nilIface]) /\ VAt w' b bs bu (S.del (klit x)) (U.put (klit x) (.held (.bool true))) (updF F x nought) /\ Bz [bs, bu] w w' := by
 have hG := Grew.alloc (Grew.refl w) (.cells (ints .u8 32 nought) 29);have H1 := h.later hG;have fr : objAt (w.alloc (.cells (ints .u8 32 nought) 29)) w.heap.size = some (.cells (ints .u8 32 nought) 29) := objAt_alloc_at _ _ _ rfl;have cP := zqg H1 hx;rw [h0, if_pos rfl] at cP;have hlt := lt_of_objAt h.o;have hls := World.ownsMap.lt h.s;have hlu := World.ownsMap.lt h.u;have nr : w.heap.size ∉ [bs] /\ w.heap.size ∉ [bu] := ⟨by simp; omega, by simp; omega⟩
 clear h
 go_enter Tryz.func7, Tryz.ntmps7
 go_wp2_with fail;refine cP.mono ?_
 rintro e w2 ⟨u, rfl, hu, hb⟩;obtain rfl : u = .nilIface := by
  rcases hu with ⟨-, h⟩ | ⟨h, -⟩
  ·exact h
  ·exact absurd rfl h
 have hG3 : Below w.heap.size w (w2.alloc (.cells (ints .u8 32 (F x)) 29)) := Grew.alloc (Grew.trans hG hb) _;have H3 := (H1.later hb).later (Grew.alloc (Grew.refl w2) (.cells (ints .u8 32 (F x)) 29));have fr3 := keep_alloc (.cells (ints .u8 32 (F x)) 29) (keep_below hb fr);have ft3 : objAt (w2.alloc (.cells (ints .u8 32 (F x)) 29)) w2.heap.size = some (.cells (ints .u8 32 (F x)) 29) := objAt_alloc_at _ _ _ rfl;have hws := (Grew.trans hG hb).size;have nt : w2.heap.size ∉ [bs] /\ w2.heap.size ∉ [bu] := ⟨by simp; omega, by simp; omega⟩
 clear hu cP H1 fr;have hnb := H3.nb;have hne := H3.ne;obtain ⟨w4, e4, s4, z4⟩ := zqci (e := 29) Tryz.underlying44 H3.s hx 0;have o4 := z4.keep H3.o (by simp; exact hnb.1);have u4 := z4.map H3.u (by simp; exact fun h => hne h.symm);have fr4 := z4.keep fr3 nr.1;have ft4 := z4.keep ft3 nt.1;obtain ⟨w5, e5, u5, z5⟩ := zqaq (e := 4) Tryz.underlying26 u4 hn hx (.bool true);have o5 := z5.keep o4 (by simp; exact hnb.2);have s5 := z5.map s4 (by simp; exact hne);have fr5 := z5.keep fr4 nr.2;have ft5 := z5.keep ft4 nt.2;have V5 : VAt w5 b bs bu (S.del (klit x)) (U.put (klit x) (.held (.bool true))) (updF F x nought) := ⟨o5, s5, u5, hne, H3.hS.del x, H3.hU.put (World.ownsMap.isMap H3.u) x⟩
 have hz : Bz [bs, bu] w w5 := ((Bz.of _ hG3).trans (z4.sub (by simp))).trans (z5.sub (by simp));have o3 := H3.o;have l3 := lt_of_objAt o3;have l4 := lt_of_objAt o4;have lt5 := lt_of_objAt ft5;have lr5 := lt_of_objAt fr5;clear H3 fr3 ft3 fr4 ft4 nr nt hlt hls hlu;go_wp2;refine ret_key_tmp rfl _ 29 (ints .u8 32 (F x)) (0, 0) _ _ rfl rfl (keep_row _ fr5) Tryz.underlying29 rfl (by rw [ints_size]; kernel_rfl) rfl ⟨rfl, V5.row fr5 _, hz.row fr5 _ (by omega)⟩
theorem zqbl {w : World} {b bs bu : Nat} {S U : DataW Value} {F : Int -> Nat -> Int} (h : VAt w b bs bu S U F) {x : Int} (hx : 0 <= x /\ x < 4294967296) (k : Nat -> Int) (h1 : Maps.has S (klit x) = false) (h2 : Maps.has U (klit x) = false) (hn : Maps.size S < 64) :
  Calls Tryz.prog 6 #[.pointer (some ⟨b, 0, none⟩), .int .u32 x, .agg (ints .u8 32 k)] w fun e w' => e = .returned .nilIface /\ VAt w' b bs bu (S.put (klit x) (.held (.agg (ints .u8 32 k)))) U (updF F x k) /\ Bz [bs] w w' := by
 have hG := Grew.alloc (Grew.refl w) (.cells (ints .u8 32 k) 29);have H1 := h.later hG;have fk : objAt (w.alloc (.cells (ints .u8 32 k) 29)) w.heap.size = some (.cells (ints .u8 32 k) 29) := objAt_alloc_at _ _ _ rfl;have cH := zq1 H1 hx;rw [h1] at cH;have hlt := lt_of_objAt h.o;clear h
 go_enter Tryz.func6, Tryz.ntmps6
 go_wp2_with fail;refine cH.mono ?_
 rintro e w2 ⟨rfl, hb⟩;have H2 := H1.later hb;have hG2 := Grew.trans hG hb;have fk2 := keep_below hb fk;have lk2 := lt_of_objAt fk2;have l2 := zqao H2.u H2.hU hx;rw [h2] at l2;have o2 := H2.o;have lo2 := lt_of_objAt o2;have n2 := fun ty => lenM (e := 29) Tryz.underlying44 H2.s ty;have hnn : ¬ (64 <= (Maps.size S : Int)) := by omega
 have hnb := H2.nb;have hne := H2.ne;obtain ⟨w3, e3, s3, z3⟩ := zqaq (w := w2.drew) (e := 29) Tryz.underlying44 H2.s.drew (by omega) hx (.agg (ints .u8 32 k));clear H1 cH fk;go_wp2_with fail
 go_region
 go_wp2;go_ret;exact ⟨rfl, ⟨z3.keep o2 (by simp; exact hnb.1), s3, z3.map H2.u (by simp; exact fun h => hne h.symm), hne, H2.hS.put (World.ownsMap.isMap H2.s) x k, H2.hU⟩, (Bz.of _ hG2).trans ⟨z3.os, z3.tape, z3.output, z3.size, z3.block⟩⟩
theorem zqbe {w : World} {b bs bu : Nat} {S U : DataW Value} {F : Int -> Nat -> Int} (h : VAt w b bs bu S U F) {x : Int} (hx : 0 <= x /\ x < 4294967296) (k : Nat -> Int) (h1 : (Maps.has S (klit x) || Maps.has U (klit x)) = true \/ 64 <= Maps.size S) :
  Calls Tryz.prog 6 #[.pointer (some ⟨b, 0, none⟩), .int .u32 x, .agg (ints .u8 32 k)] w fun e w' => ∃ u, e = .returned u /\ ErV w' u (if (Maps.has S (klit x) || Maps.has U (klit x)) = true then 17 else 18) /\ Below w.heap.size w w' := by
 have hG := Grew.alloc (Grew.refl w) (.cells (ints .u8 32 k) 29);have H1 := h.later hG;have cH := zq1 H1 hx;clear h
 rcases hs : Maps.has S (klit x) with _ | _
 ·rw [hs] at cH
  rcases hu : Maps.has U (klit x) with _ | _
  ·have hm : (64 : Int) <= (Maps.size S : Int) := by
    rcases h1 with h1 | h1
    ·rw [hs, hu] at h1; cases h1
    ·omega
   rw [if_neg (by decide)]
   go_enter Tryz.func6, Tryz.ntmps6
   go_wp2_with fail;refine cH.mono ?_
   rintro e w2 ⟨rfl, hb⟩;have H2 := H1.later hb;have hG2 := Grew.trans hG hb;have l2 := zqao H2.u H2.hU hx;rw [hu] at l2;have o2 := H2.o;have lo2 := lt_of_objAt o2;have n2 := fun ty => lenM (e := 29) Tryz.underlying44 H2.s ty;clear H1 cH;go_wp2_with fail;refine (wrap_any _ _ _ _).mono ?_
   rintro e w3 ⟨rfl, rfl⟩;go_wp2;go_ret;exact ⟨_, rfl, zq8 (F := 18) (objAt_alloc_at _ _ _ (by simp)) (by decide), by exact grew_auto⟩
  ·rw [if_pos (by decide)]
   go_enter Tryz.func6, Tryz.ntmps6
   go_wp2_with fail;refine cH.mono ?_
   rintro e w2 ⟨rfl, hb⟩;have H2 := H1.later hb;have hG2 := Grew.trans hG hb;have l2 := zqao H2.u H2.hU hx;rw [hu] at l2;have o2 := H2.o;have lo2 := lt_of_objAt o2;have n2 := fun ty => lenM (e := 29) Tryz.underlying44 H2.s ty;clear H1 cH;go_wp2_with fail;refine (wrap_any _ _ _ _).mono ?_
   rintro e w3 ⟨rfl, rfl⟩;go_wp2;go_ret;exact ⟨_, rfl, zq8 (F := 17) (objAt_alloc_at _ _ _ (by simp)) (by decide), by exact grew_auto⟩
 ·rw [hs] at cH
  rw [if_pos (by simp)];have hu : True := trivial
  go_enter Tryz.func6, Tryz.ntmps6
  go_wp2_with fail;refine cH.mono ?_
  rintro e w2 ⟨rfl, hb⟩;have H2 := H1.later hb;have hG2 := Grew.trans hG hb;have o2 := H2.o;have lo2 := lt_of_objAt o2;clear H1 cH;go_wp2_with fail;refine (wrap_any _ _ _ _).mono ?_
  rintro e w3 ⟨rfl, rfl⟩;go_wp2;go_ret;exact ⟨_, rfl, zq8 (F := 17) (objAt_alloc_at _ _ _ (by simp)) (by decide), by exact grew_auto⟩
def litN : Lit -> Int
 | .int _ x => x
 | _ => 0
theorem zq5 {w : World} {b n : Nat} {D : DataW Value} (h : w.ownsMap Tryz.prog 27 hR b n D) {ss : List Int} (hC : CollU D (fun _ => false) ss) : ss.length = Maps.size D := by
 obtain ⟨es, rfl, hp⟩ := World.ownsMap.tidy h LK;obtain ⟨es', e, hk⟩ := World.ownsMap.keysOf h
 cases e
 have hk' : ∀ p ∈ es, ∃ x, p.1 = .int .u32 x := fun p hp => by
  obtain ⟨v, hv⟩ := hk p hp;obtain ⟨x, -, hx⟩ := u32_told hv;exact ⟨x, hx⟩
 have hP : ss.Perm (es.map fun p => litN p.1) := by
  refine (List.perm_ext_iff_of_nodup hC.1 ?_).2 fun x => ?_
  ·refine List.pairwise_map.2 (hp.imp_of_mem fun {p q} hp' hq' hne e => hne ?_)
   obtain ⟨a, ha⟩ := hk' p hp';obtain ⟨b, hb⟩ := hk' q hq';rw [ha, hb] at e ⊢;exact congrArg _ e
  ·rw [hC.2 x, has_eq, List.any_eq_true, List.mem_map]
   constructor
   ·rintro ⟨⟨p, hp', hs⟩, -⟩
    obtain ⟨a, ha⟩ := hk' p hp';rw [ha] at hs;exact ⟨p, hp', by rw [ha]; simpa [Lit.sameKey, litN] using hs⟩
   ·rintro ⟨p, hp', rfl⟩
    obtain ⟨a, ha⟩ := hk' p hp';exact ⟨⟨p, hp', by rw [ha]; simp [Lit.sameKey, litN]⟩, rfl⟩
 rw [hP.length_eq, List.length_map]
 rfl
theorem SrtV.le {b b' : Nat} {w : World} {v : Value} {ss : List Int} (h : SrtV b w v ss) (hb : b' <= b) : SrtV b' w v ss := by
 rcases h with h | ⟨g, c, R, h1, h2, h3⟩
 ·exact .inl h
 ·exact .inr ⟨g, c, R, h1, Nat.le_trans hb h2, h3⟩
theorem zqbg {w : World} {b bs bu : Nat} {S U : DataW Value} {F : Int -> Nat -> Int} (h : VAt w b bs bu S U F) (hn : Maps.size S < 256) :
  Calls Tryz.prog 16 #[.pointer (some ⟨b, 0, none⟩)] w fun e w' => ∃ v ss, e = .returned v /\ CollU S (fun _ => false) ss /\ ss.length = Maps.size S /\ SrtV w.heap.size w' v ss /\ Below w.heap.size w w' := by
 have fo := h.o;have lo := lt_of_objAt fo;have hm := h.s;have hb0 : Below w.heap.size w (w.alloc (.cells #[.map (some bs)] 44)) := (Below.refl _ w).alloc (Nat.le_refl _) _;have hlen : ∀ ss : List Int, CollU S (fun _ => false) ss -> ss.length = Maps.size S := fun ss hC => zq5 hm hC;have hs := sorted_any 31 #[.pointer (some ⟨w.heap.size, 0, none⟩)] (fun args w => by simp) (CollU S (fun _ => false)) (fun _ => True) (fun ss hC => by
  have := hlen ss hC
  show ss.length < 256
  omega) (Maps.size S) (by omega) (w.alloc (.cells #[.map (some bs)] 44)) (zq9 2 (by omega) w.heap.size bs _ S _ (objAt_alloc_at _ _ _ rfl) (World.ownsMap.alloc hm _))
 have HS := hidS hs;have HL := hidS hlen;clear hs hlen h hm
 go_enter Tryz.func16, Tryz.ntmps16
 go_wp2_with fail;refine (zqa4 (some bs) w).mono ?_
 rintro e _ ⟨rfl, rfl⟩;go_wp2_with fail;refine HS.out.mono ?_
 rintro e w2 ⟨v, ss, rfl, h1, h2, h3⟩;have hl := HL.out ss h1;have H1 := hidS h1;have H2 := hidS h2;have H3 := hidS (Grew.trans hb0 h3);have HL2 := hidS hl;clear h1 h2 h3 hl;go_wp2;go_ret;exact ⟨v, ss, rfl, H1.out, HL2.out, H2.out.le (by simp), H3.out⟩
theorem zqat {w : World} {b bs bu : Nat} {S U : DataW Value} {F : Int -> Nat -> Int} (h : VAt w b bs bu S U F) (hn : Maps.size U < 256) :
  Calls Tryz.prog 11 #[.pointer (some ⟨b, 0, none⟩)] w fun e w' => ∃ v ss, e = .returned v /\ CollU U (fun _ => false) ss /\ ss.length = Maps.size U /\ SrtV w.heap.size w' v ss /\ Below w.heap.size w w' := by
 have fo := h.o;have lo := lt_of_objAt fo;have hm := h.u;have hb0 : Below w.heap.size w (w.alloc (.cells #[.map (some bu)] 26)) := (Below.refl _ w).alloc (Nat.le_refl _) _;have hlen : ∀ ss : List Int, CollU U (fun _ => false) ss -> ss.length = Maps.size U := fun ss hC => zq5 hm hC;have hs := sorted_any 25 #[.pointer (some ⟨w.heap.size, 0, none⟩)] (fun args w => by simp) (CollU U (fun _ => false)) (fun _ => True) (fun ss hC => by
  have := hlen ss hC
  show ss.length < 256
  omega) (Maps.size U) (by omega) (w.alloc (.cells #[.map (some bu)] 26)) (zqai 2 (by omega) w.heap.size bu _ U _ (objAt_alloc_at _ _ _ rfl) (World.ownsMap.alloc hm _))
 have HS := hidS hs;have HL := hidS hlen;clear hs hlen h hm
 go_enter Tryz.func11, Tryz.ntmps11
 go_wp2_with fail;refine (zqb2 (some bu) w).mono ?_
 rintro e _ ⟨rfl, rfl⟩;go_wp2_with fail;refine HS.out.mono ?_
 rintro e w2 ⟨v, ss, rfl, h1, h2, h3⟩;have hl := HL.out ss h1;have H1 := hidS h1;have H2 := hidS h2;have H3 := hidS (Grew.trans hb0 h3);have HL2 := hidS hl;clear h1 h2 h3 hl;go_wp2;go_ret;exact ⟨v, ss, rfl, H1.out, HL2.out, H2.out.le (by simp), H3.out⟩
theorem zqap {w : World} {b n : Nat} {D : DataW Value} (h : w.ownsMap Tryz.prog 27 hR b n D) {x : Int} (hx : Maps.has D (.int .u32 x) = true) : 0 <= x /\ x < 4294967296 := by
 obtain ⟨es, rfl, hk⟩ := World.ownsMap.keysOf h;rw [has_eq, List.any_eq_true] at hx;obtain ⟨p, hp, hs⟩ := hx;obtain ⟨v, hv⟩ := hk p hp;obtain ⟨y, -, hy, hw⟩ := Maps.keyOf_int_inv Tryz.underlying27 hv;rw [hy] at hs;obtain rfl : y = x := by simpa [Lit.sameKey] using hs
 simp [Lit.wf, IntKind.min, IntKind.max, IntKind.signed, IntKind.bits] at hw
 omega
theorem zqbo {ss : List Int} {R : Array Int} (hP : Go.Sort.PermIn 0 ss.length ss.toArray R) : R.size = ss.length /\ ∀ k, k < ss.length -> R[k]! ∈ ss := by
 obtain ⟨p1, -, p3⟩ := hP;have p1 : R.size = ss.length := by simpa using p1
 have e1 : R.extract 0 ss.length = R := by rw [<- p1]; simp
 have e2 : ss.toArray.extract 0 ss.length = ss.toArray := by simp
 rw [e1, e2] at p3;refine ⟨p1, fun k hk => ?_⟩;have hk' : k < R.size := by omega
 rw [getElem!_pos R k hk'];have : R[k] ∈ R.toList := by simp
 simpa using p3.mem_iff.1 this
theorem zqh {w : World} {b bs bu : Nat} {S U : DataW Value} {F : Int -> Nat -> Int} (h : VAt w b bs bu S U F) (hn : Maps.size S < 256) :
  Calls Tryz.prog 10 #[.pointer (some ⟨b, 0, none⟩)] w fun e w' => ∃ oa c, e = .returned (.slice oa (Maps.size S) c) /\ Below w.heap.size w w' := by
 have cI := zqbg h hn;have HB : Hid (∀ x : Int, Maps.has S (.int .u32 x) = true -> 0 <= x /\ x < 4294967296) := fun x hx => zqap h.s hx;have HV := hidS h
 go_enter Tryz.func10, Tryz.ntmps10
 go_wp2_with fail;refine cI.mono ?_
 rintro e w1 ⟨v, ss, rfl, hC, hl, hsrt, hG⟩;have HG := hidS hG;have V1 := hidS (HV.out.later hG);have HL := hidS hl;clear cI h hG
 rcases hsrt with ⟨rfl, rfl⟩ | ⟨gi, c, R, rfl, q1, q2, q3, q4, q5⟩
 ·have HL2 := HL.out
  clear hl;go_wp2;refine wp_loop_rounds 1 ?_
  rw [rounds_succ];go_wp2;go_ret;exact ⟨none, 0, by rw [<- HL2]; rfl, HG.out⟩
 ·obtain ⟨rs, rm⟩ := zqbo q4
  obtain ⟨cur, hg, hsc, hc⟩ := q3;have HM : Hid (∀ k, k < ss.length -> 0 <= R[k]! /\ R[k]! < 4294967296) := fun k hk => HB.out _ ((hC.2 _).1 (rm k hk)).1;have HC : Hid (∀ k, k < ss.length -> cur[k]? = some (.int .u32 R[k]!)) := fun k hk => hc k (by omega);have HGI := hidS hg;clear hc hC rm q1 q2 q4 q5 hg hsc rs;have hs256 : ss.length < 256 := by omega
  clear hl;go_wp2_with fail
  go_loopw [3, 9] (fun v3 v9 wr => ∃ (k g c3 : Nat) (oa : Option Addr) (K : Nat -> Nat -> Int), v9 = .int .i64 k /\ k <= ss.length /\ v3 = .slice oa k c3 /\ Mine 29 wr g oa k c3 K /\ w1.heap.size <= g /\ Below w1.heap.size w1 wr) (fun _ v9 _ => ss.length - (intOf v9).toNat)
  case atStart => exact ⟨0, w1.heap.size, 0, none, fun _ _ => 0, rfl, Nat.zero_le _, rfl, Mine.nil _ _ _ _ _, Nat.le_refl _, Below.refl _ _⟩
  case round =>
   obtain ⟨k, g, c3, oa, K, rfl, hk, rfl, hM, hgw, hB1⟩ := hrel
   by_cases hlt : k < ss.length
   ·have h1 : (k : Int) < (ss.length : Int) := by omega
    have h2 : (0 : Int) <= (k : Int) := by omega
    have hgk : objAt wr gi = some (.cells cur 27) := keep_below hB1 HGI.out;have lgk := lt_of_objAt hgk;have hxk := HC.out k hlt;have hx := HM.out k hlt;have hV1 := V1.out.later hB1;have fo := hV1.o;have lo := lt_of_objAt fo;have lk := zqbq hV1.s hV1.hS hx;generalize R[k]! = x at *;have hA : Below wr.heap.size wr (wr.alloc (.cells (ints .u8 32 (F x)) 29)) := Grew.alloc (Grew.refl _) _;have hF : K32At (wr.alloc (.cells (ints .u8 32 (F x)) 29)) (some ⟨wr.heap.size, 0, none⟩) 1 (fun _ => F x) := zqal (objAt_alloc_at _ _ _ rfl) (by decide) (zqbb (F x))
    obtain ⟨g', oa', c', w3, hr3, hM3, h3⟩ := zqcb (c2 := 1) (i := (Tryz.prog.info? 29).get zqa) (z := ((Tryz.prog.info? 29).get zqa).zero.get zqa) Tryz.underlying39 zqa zqa zqa zqa zqa (wr.alloc (.cells (ints .u8 32 (F x)) 29)) g oa (some ⟨wr.heap.size, 0, none⟩) k c3 1 K (fun _ => F x) (hM.obj fun cs hcs => keep_below hA hcs) hF (by omega);have HR : Hid (Mine 29 w3 g' oa' (k + 1) c' (catK k K fun _ => F x) /\ w1.heap.size <= g' /\ Below w1.heap.size w1 w3) := by
     have hA1 : Below w1.heap.size w1 (wr.alloc (.cells (ints .u8 32 (F x)) 29)) := Grew.trans hB1 hA;have hz := hB1.size;refine ⟨hM3, ?_, ?_⟩
     ·rcases h3 with ⟨-, ⟨rfl, -⟩ | rfl⟩ | ⟨rfl, -⟩
      ·simp; omega
      ·exact hgw
      ·exact hgw
     ·rcases h3 with ⟨h3, -⟩ | ⟨rfl, cs, cs', -, rfl⟩
      ·exact Grew.trans hA1 h3
      ·exact Grew.setRow hA1 _ _ hgw
    clear hM3 h3 hF hA hM hV1 hB1 hx;go_wp2
    go_roundw
    case rel =>
     first
     | exact ⟨k + 1, g', c', oa', _, by go_num, by omega, rfl, HR.out.1, HR.out.2⟩
     | ((repeat' apply Exists.intro) <;> first | exact ⟨⟨k + 1, g', c', oa', _, by go_num, by omega, rfl, HR.out.1, HR.out.2⟩, rfl⟩ | exact undef)
    case measure => (simp [intOf] <;> omega)
   ·obtain rfl : k = ss.length := by omega
    have hB2 := hidS (Grew.trans HG.out hB1);clear hM hlt hk hB1;go_wp2;go_ret;exact ⟨oa, c3, congrArg (fun k => Ending.returned (Value.slice oa k c3)) HL.out, hB2.out⟩
theorem VAt.bz {w w' : World} {b bs bu : Nat} {S U : DataW Value} {F : Int -> Nat -> Int} {B : List Nat} (h : VAt w b bs bu S U F) (k : Bz B w w') (hb : b ∉ B) (hs : bs ∉ B) (hu : bu ∉ B) : VAt w' b bs bu S U F :=
 ⟨k.keep h.o hb, k.map h.s hs, k.map h.u hu, h.ne, h.hS, h.hU⟩
theorem zqa6 {w : World} {b bs bu : Nat} {S U : DataW Value} {F : Int -> Nat -> Int} (h : VAt w b bs bu S U F) {x : Int} (hx : 0 <= x /\ x < 4294967296) (k : Nat -> Int) (hn : Maps.size S <= 64) :
  Calls Tryz.prog 6 #[.pointer (some ⟨b, 0, none⟩), .int .u32 x, .agg (ints .u8 32 k)] w fun e w' => ∃ u S' F', e = .returned u /\ VAt w' b bs bu S' U F' /\ Maps.size S' <= 64 /\ Bz [bs] w w' := by
 by_cases h1 : (Maps.has S (klit x) || Maps.has U (klit x)) = true \/ 64 <= Maps.size S
 ·refine (zqbe h hx k h1).mono ?_
  rintro e w' ⟨u, rfl, -, hb⟩;exact ⟨u, S, F, rfl, h.later hb, hn, Bz.of _ hb⟩
 ·have h2 : Maps.has S (klit x) = false /\ Maps.has U (klit x) = false := by
   have : ¬ (Maps.has S (klit x) || Maps.has U (klit x)) = true := fun e => h1 (.inl e)
   simpa using this
  have h3 : Maps.size S < 64 := by
   have : ¬ 64 <= Maps.size S := fun e => h1 (.inr e)
   omega
  have hT := World.ownsMap.tidy h.s LK;refine (zqbl h hx k h2.1 h2.2 h3).mono ?_
  rintro e w' ⟨rfl, V, z⟩;refine ⟨_, _, _, rfl, V, ?_, z⟩;rw [size_put hT, h2.1]
  simp
  omega
theorem zqaw {w : World} {b bs bu : Nat} {S U : DataW Value} {F : Int -> Nat -> Int} (h : VAt w b bs bu S U F) {x : Int} (hx : 0 <= x /\ x < 4294967296) (hU : Maps.size U < 1000000000) :
  Calls Tryz.prog 7 #[.pointer (some ⟨b, 0, none⟩), .int .u32 x] w fun e w' => ∃ (kv : Nat -> Int) (u : Value) (S' U' : DataW Value) (F' : Int -> Nat -> Int), e = .returned (.tuple #[.agg (ints .u8 32 kv), u]) /\ VAt w' b bs bu S' U' F' /\ Maps.size S' <= Maps.size S /\ Bz [bs, bu] w w' /\ pkE S' U' x ≠ 0 /\
   ((u = .nilIface /\ Maps.has U (klit x) = false /\ U' = U.put (klit x) (.held (.bool true))) \/ (kv = nought /\ U' = U /\ ErV w' u (if Maps.has U (klit x) = true then 11 else 10))) := by
 by_cases h0 : pkE S U x = 0
 ·have hT := World.ownsMap.tidy h.s LK
  refine (zqa3 h hx h0 hU).mono ?_
  rintro e w' ⟨rfl, V, z⟩;have hu : Maps.has U (klit x) = false := by
   unfold pkE at h0
   cases hq : Maps.has U (klit x) with
   | false => rfl
   | true => rw [hq] at h0; simp at h0
  refine ⟨_, _, _, _, _, rfl, V, ?_, z, ?_, .inl ⟨rfl, hu, rfl⟩⟩
  ·have := size_del (k := klit x) hT
   omega
  ·unfold pkE
   rw [has_put_same (World.ownsMap.isMap h.u) (zqs x)]
   simp
 ·have hE : pkE S U x = if Maps.has U (klit x) = true then 11 else 10 := by
   unfold pkE at h0 ⊢
   by_cases hu : Maps.has U (klit x) = true
   ·simp [hu]
   ·by_cases hs : Maps.has S (klit x) = true
    ·simp [hu, hs] at h0
    ·simp [hu, hs]
  have cE : ∀ W, Below w.heap.size w W -> Calls Tryz.prog 9 #[.pointer (some ⟨b, 0, none⟩), .int .u32 x] W fun e w' => ∃ u, e = .returned (.tuple #[.agg (ints .u8 32 nought), u]) /\ ErV w' u (pkE S U x) /\ Below W.heap.size W w' := fun W hb => by
   have := zqg (h.later hb) hx;rwa [if_neg h0] at this
  refine (zqay _ x _ w h0 cE).mono ?_
  rintro e w' ⟨u, rfl, hu, hb⟩;exact ⟨nought, u, S, U, F, rfl, h.later hb, Nat.le_refl _, Bz.of _ hb, h0, .inr ⟨rfl, rfl, by rw [<- hE]; exact hu⟩⟩
theorem zqv {w : World} {b bs bu : Nat} {S U : DataW Value} {F : Int -> Nat -> Int} (h : VAt w b bs bu S U F) (hn : Maps.size U < 256) :
  Calls Tryz.prog 11 #[.pointer (some ⟨b, 0, none⟩)] w fun e w' => ∃ oa c, e = .returned (.slice oa (Maps.size U) c) /\ Below w.heap.size w w' := by
 refine (zqat h hn).mono ?_
 rintro e w' ⟨v, ss, rfl, -, hl, hs, hb⟩
 rcases hs with ⟨rfl, rfl⟩ | ⟨g, c, R, rfl, -⟩
 ·exact ⟨none, 0, by rw [<- hl]; rfl, hb⟩
 ·exact ⟨_, c, by rw [<- hl], hb⟩
end Go.Proofs.YtihoodeaaamlfaaGreatDoor
namespace Go.Proofs.YtihoodeaaamlfaaGreatDoor
open Go.ChangeShapes Go.WideShapes Go.ChangeAt Go.RowKit Go.Lib
theorem zqac (ad : Addr) (i : Nat) : (ad.add i).block = ad.block := by unfold Addr.add; split <;> rfl
theorem one_of {α : Type} (l : List α) (k : Nat) (h : k < l.length) : (l.drop k).take 1 = [l[k]] := by
 rw [List.drop_eq_getElem_cons h]
 rfl
def CAt (z : Nat) (w : World) (oa : Option Addr) (n : Nat) (C : Nat -> Array Value) : Prop :=
 n = 0 \/ ∃ ad : Addr, oa = some ad /\ ad.block < w.heap.size /\ ∀ j, j < n -> ∀ i, i < z -> w.cell? ((ad.add (j * z)).add i) = (C j)[i]?
theorem CAt.blk {z : Nat} {w : World} {oa : Option Addr} {n : Nat} {C : Nat -> Array Value} (h : CAt z w oa n C) (hn : 0 < n) : ∃ ad, oa = some ad /\ ad.block < w.heap.size := by
 rcases h with h | ⟨ad, ho, hl, _⟩
 ·omega
 ·exact ⟨ad, ho, hl⟩
theorem CAt.later {z : Nat} {w w' : World} {oa : Option Addr} {n : Nat} {C : Nat -> Array Value} (h : CAt z w oa n C) (hb : Below w.heap.size w w') : CAt z w' oa n C := by
 rcases h with h | ⟨ad, ho, hl, hc⟩
 ·exact .inl h
 ·refine .inr ⟨ad, ho, Nat.lt_of_lt_of_le hl hb.size, fun j hj i hi => ?_⟩
  rw [hb.cell (by rw [zqac, zqac]; exact hl)];exact hc j hj i hi
theorem zqab {H : Type} {enc : TypeId × Value -> H} {P : Program} {W : World} {base : Nat} {sp : Nat -> Bool} {held : Bool} {t e : TypeId} {v : Value} {d : DataW H} {ps : List MemPlace}
  (ht : P.underlying t = some (.slice e)) (hsl : ∃ o l c, v = .slice o l c) (hd : DataW.Trod enc P W base sp held t v d ps) :
  ∃ (oa : Option Addr) (len cap : Nat), v = .slice oa len cap /\ (len <= cap /\ cap <= maxLen) /\ (len = 0 \/ ∃ a : Addr, oa = some a /\ ∀ i, i < len -> ∃ cs m y, cs.length = P.cellsOf e /\ (∀ j, j < P.cellsOf e -> W.cell? (a.add (i * P.cellsOf e + j)) = cs[j]?) /\ DataW.trod enc P W base sp held m e cs = some y) := by
 obtain ⟨o, l, c, rfl⟩ := hsl;obtain ⟨fuel, hf⟩ := hd
 rcases Go.Deep.open_slice ht hf with ⟨h0, _⟩ | ⟨a, len, cap, m, n', D, Pl, hcs, hb, hl, hm, hmm, hx, hi⟩
 ·have e0 : (Value.slice o l c).cells.toList = [.slice o l c] := rfl
  rw [e0] at h0
  cases h0
  exact ⟨none, 0, 0, rfl, ⟨Nat.le_refl _, Nat.zero_le _⟩, .inl rfl⟩
 ·have e0 : (Value.slice o l c).cells.toList = [.slice o l c] := rfl
  rw [e0] at hcs
  cases hcs
  have hlm : l <= m := by subst hmm; split <;> omega
  refine ⟨some a, l, c, rfl, ⟨hl, hm⟩, .inr ⟨a, rfl, fun i hil => ?_⟩⟩;obtain ⟨cs', h1, h2⟩ := hi i (by omega);obtain ⟨_, hcl, hat⟩ := World.cells?_some h1
  refine ⟨cs', _, _, hcl, fun j hj => ?_, h2⟩;rw [<- Go.Deep.add_add, hat j hj]
def vaC (d : Int) (i : Int) (k : Nat -> Int) : Array Value := (#[Value.int .u8 d, Value.int .u32 i] : Array Value) ++ ints .u8 32 k
@[go_sem] theorem zqae (d : Int) (i : Int) (k : Nat -> Int) : (vaC d i k).size = 34 := by kernel_rfl
@[go_sem] theorem zqcv  (d : Int) (i : Int) (k : Nat -> Int) : oneCells (vaC d i k) = true := by kernel_rfl
@[go_sem] theorem zqbt (d : Int) (i : Int) (k : Nat -> Int) : (vaC d i k)[0]? = some (Value.int .u8 d) := by kernel_rfl
@[go_sem] theorem zqdg (d : Int) (i : Int) (k : Nat -> Int) (h : 0 < (vaC d i k).size) : (vaC d i k)[0] = Value.int .u8 d := Option.some.inj ((Array.getElem?_eq_getElem h).symm.trans (zqbt d i k))
@[go_sem] theorem zqb4 (d : Int) (i : Int) (k : Nat -> Int) (d9 : Int) : (vaC d i k).setIfInBounds 0 (Value.int .u8 d9) = vaC d9 i k := by kernel_rfl
@[go_sem] theorem zqby (d : Int) (i : Int) (k : Nat -> Int) : (vaC d i k)[1]? = some (Value.int .u32 i) := by kernel_rfl
@[go_sem] theorem zqdb (d : Int) (i : Int) (k : Nat -> Int) (h : 1 < (vaC d i k).size) : (vaC d i k)[1] = Value.int .u32 i := Option.some.inj ((Array.getElem?_eq_getElem h).symm.trans (zqby d i k))
@[go_sem] theorem zqb5 (d : Int) (i : Int) (k : Nat -> Int) (i9 : Int) : (vaC d i k).setIfInBounds 1 (Value.int .u32 i9) = vaC d i9 k := by kernel_rfl
theorem zqbf (d : Int) (i : Int) (k : Nat -> Int) : (vaC d i k).extract 2 (2 + 32) = ints .u8 32 k := by kernel_rfl
@[go_sem] theorem zqdh : szT 31 = 34 := by kernel_rfl
@[go_sem] theorem zqda : LdP 31 34 := ⟨fun g w => by rw [run_loadNext, loadRow_eq Tryz.underlying31 rfl zqa g w]⟩
@[go_sem] theorem zqc9 : StP 31 34 := ⟨fun g cs w => by rw [run_storeNext, storeRow_eq zqa g cs w]⟩
@[go_sem high] theorem zqbv (w : World) : (zeroValue 31).run Tryz.prog w = .ok (.agg (vaC 0 0 nought)) w := by kernel_rfl
@[go_sem ↓ high] theorem zqbx (w : World) : (zeroValue 31).run Tryz.prog w = .ok (.agg (vaC 0 0 nought)) w := by kernel_rfl
@[go_sem] theorem zqbz (w : World) : (noneNext 31).run Tryz.prog w = .ok (.value (.agg (vaC 0 0 nought))) w := by kernel_rfl
@[go_sem] theorem zqbr (g : Nat) (w : World) : (loadNext 29 (.pointer (some ⟨g, 2, none⟩))).run Tryz.prog w = (loadMid Tryz.prog 29 g 2 32 w (objAt w g)).andThen fun v w' => .ok (.value v) w' := by
 rw [run_loadNext, loadMid_eq Tryz.underlying29 rfl zqa g 2 w]
@[go_sem] theorem zqbi (g : Nat) (w : World) (d : Int) (i : Int) (k : Nat -> Int) (t' : TypeId) (fr : Nat × Nat) : loadMid Tryz.prog 29 g 2 32 w (some (.cells (vaC d i k) t' fr)) = .ok (.agg (ints .u8 32 k)) w := by
 unfold loadMid
 simp only [zqae]
 rw [if_pos (by decide), zqbf]
theorem zqb3 (d i : Int) (k : Nat -> Int) (q : Nat) (h : q < 32) : (vaC d i k)[2 + q]? = some (.int .u8 (k q)) := by
 unfold vaC;rw [Array.getElem?_append_right (by simp), show 2 + q - (#[Value.int .u8 d, Value.int .u32 i] : Array Value).size = q by simp, ints_get _ _ _ _ h]
attribute [irreducible] vaC
theorem CAt.load_vact {w : World} {ad : Addr} {n : Nat} {C : Nat -> Array Value} (hC : ∀ j, (C j).size = 34) (h : CAt 34 w (some ad) n C) {j : Nat} (hj : j < n) : (loadNext 31 (.pointer (some (ad.add (j * 34))))).run Tryz.prog w = .ok (.value (.agg (C j))) w := by
 rcases h with h | ⟨ad', ho, hl, hc⟩
 ·omega
 ·cases ho
  exact zq7 Tryz.underlying31 rfl zqa w _ _ (hC j) (hc j hj)
theorem zqa5 {H : Type} {enc : TypeId × Value -> H} {W : World} {base : Nat} {sp : Nat -> Bool} {held : Bool} {fuel : Nat} {cs : List Value} {x : DataW H × List MemPlace}
  (hl : cs.length = 34) (h : DataW.trod enc Tryz.prog W base sp held fuel 31 cs = some x) : ∃ (d i : Int) (k : Nat -> Int), (0 <= d /\ d <= 255) /\ (0 <= i /\ i < 4294967296) /\ ∀ j, j < 34 -> cs[j]? = (vaC d i k)[j]? := by
 obtain ⟨xs, n, _, _, _, hxl, hel⟩ := DataW.trod_struct Tryz.underlying31 h;obtain ⟨y0, y1, y2, rfl⟩ : ∃ y0 y1 y2, xs = [y0, y1, y2] := by
  match xs, hxl with
  | [y0, y1, y2], _ => exact ⟨y0, y1, y2, rfl⟩
 have c0 : Tryz.prog.cellsOf 5 = 1 := by kernel_rfl
 have c1 : Tryz.prog.cellsOf 27 = 1 := by kernel_rfl
 have c2 : Tryz.prog.cellsOf 29 = 32 := by kernel_rfl
 have E0 : DataW.trod enc Tryz.prog W base sp held n 5 ((cs.drop 0).take (Tryz.prog.cellsOf 5)) = some y0 := hel 0 _ rfl;have E1 : DataW.trod enc Tryz.prog W base sp held n 27 ((cs.drop 1).take (Tryz.prog.cellsOf 27)) = some y1 := hel 1 _ rfl;have E2 : DataW.trod enc Tryz.prog W base sp held n 29 ((cs.drop 2).take (Tryz.prog.cellsOf 29)) = some y2 := hel 2 _ rfl;rw [c0, one_of _ 0 (by omega)] at E0;rw [c1, one_of _ 1 (by omega)] at E1;rw [c2] at E2;obtain ⟨d, hd, -, wd⟩ := DataW.trod_int Tryz.underlying5 E0;obtain ⟨i, hi, -, wi⟩ := DataW.trod_int Tryz.underlying27 E1;obtain ⟨k, hk⟩ := zqw (n := 32) (k := .u8) Tryz.underlying29 Tryz.underlying5 zqa (by simp [hl]) E2
 simp [Lit.wf, IntKind.min, IntKind.max, IntKind.signed, IntKind.bits] at wd wi
 refine ⟨d, i, k, ⟨by omega, by omega⟩, ⟨by omega, by omega⟩, fun j hj => ?_⟩
 match j, hj with
 | 0, _ =>
  rw [zqbt, List.getElem?_eq_getElem (by omega)];exact congrArg some (List.cons.inj hd).1
 | 1, _ =>
  rw [zqby, List.getElem?_eq_getElem (by omega)];exact congrArg some (List.cons.inj hi).1
 | q + 2, hj =>
  have hq : q < 32 := by omega
  have h2 := (hk q hq).1;rw [List.getElem?_take, if_pos hq, List.getElem?_drop] at h2;rw [Nat.add_comm q 2, zqb3 _ _ _ _ hq];exact h2
theorem zqak {H : Type} {enc : TypeId × Value -> H} {W : World} {base : Nat} {sp : Nat -> Bool} {held : Bool} {r : Reach} {b0 : Nat} {v : Value} {d : DataW H} {ps : List MemPlace}
  (hval : Value.okWide Tryz.prog W r b0 22 v) (hd : DataW.Trod enc Tryz.prog W base sp held 22 v d ps) :
  ∃ (oa : Option Addr) (n c : Nat) (D I : Nat -> Int) (K : Nat -> Nat -> Int), v = .slice oa n c /\ (n <= c /\ c <= maxLen) /\ (∀ j, j < n -> (0 <= D j /\ D j <= 255) /\ (0 <= I j /\ I j < 4294967296)) /\ CAt 34 W oa n (fun j => vaC (D j) (I j) (K j)) := by
 obtain ⟨oa0, n0, c0, rfl⟩ := zqu Tryz.underlying22 hval;obtain ⟨oa, m, c, hv, hm, hF⟩ := zqab Tryz.underlying22 ⟨_, _, _, rfl⟩ hd;have c3 : Tryz.prog.cellsOf 31 = 34 := by kernel_rfl
 rw [c3] at hF;have key : m = 0 \/ ∃ a : Addr, oa = some a /\ ∀ i, i < m -> ∃ z : Int × Int × (Nat -> Int), ((0 <= z.1 /\ z.1 <= 255) /\ (0 <= z.2.1 /\ z.2.1 < 4294967296)) /\ ∀ j, j < 34 -> W.cell? (a.add (i * 34 + j)) = (vaC z.1 z.2.1 z.2.2)[j]? := by
  rcases hF with h | ⟨a, ho, hc⟩
  ·exact .inl h
  ·refine .inr ⟨a, ho, fun i hi => ?_⟩
   obtain ⟨cs', m', y, hl, hat, hy⟩ := hc i hi;obtain ⟨d, e, k, h1, h2, hcs⟩ := zqa5 hl hy;exact ⟨⟨d, e, k⟩, ⟨h1, h2⟩, fun j hj => (hat j hj).trans (hcs j hj)⟩
 rcases key with rfl | ⟨a, rfl, hc⟩
 ·exact ⟨oa, 0, c, fun _ => 0, fun _ => 0, fun _ _ => 0, hv, hm, fun j hj => by omega, .inl rfl⟩
 ·refine ⟨some a, m, c, fun i => if h : i < m then (Classical.choose (hc i h)).1 else 0, fun i => if h : i < m then (Classical.choose (hc i h)).2.1 else 0, fun i => if h : i < m then (Classical.choose (hc i h)).2.2 else fun _ => 0, hv, hm, fun j hj => ?_, ?_⟩
  ·simp only [hj, dif_pos]
   exact (Classical.choose_spec (hc j hj)).1
  ·rcases Nat.eq_zero_or_pos m with rfl | hp
   ·exact .inl rfl
   refine .inr ⟨a, rfl, ?_, fun j hj i hi => ?_⟩
   ·have h0 := (Classical.choose_spec (hc 0 hp)).2 0 (by decide)
    rw [zqbt] at h0;have h1 := cell_lt h0;rwa [zqac] at h1
   ·simp only [hj, dif_pos]
    rw [Go.Deep.add_add];exact (Classical.choose_spec (hc j hj)).2 i hi
end Go.Proofs.YtihoodeaaamlfaaGreatDoor
