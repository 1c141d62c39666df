/- W21 -/
import Derived.Test.YtfglcifnjaknnaaGreatDoorB17
import Derived.Test.YtfglcifnjaknnaaGreatDoorC16
import Derived.Test.YtfglcifnjaknnaaGreatDoorR10
import Derived.Maps.OwnSet
import Derived.Test.YtfglcifnjaknnaaGreatDoorE15
import Derived.Test.YtfglcifnjaknnaaGreatDoorDh
import Derived.Test.YtfglcifnjaknnaaGreatDoorY20
set_option linter.unusedVariables false
set_option linter.unusedSimpArgs false
set_option maxRecDepth 100000
set_option maxHeartbeats 4000000
namespace Go.Proofs.YtfglcifnjaknnaaGreatDoor
open Go.RowKit Go.Maps
def hR (v : Value) : Option (DataW Value × List MemPlace) := some (.held v, [])
theorem zrd5 {x : Int} (h0 : 0 <= x) (h1 : x < 4294967296) : (Lit.int .u32 x).wf = true := by simp [Lit.wf, IntKind.min, IntKind.max, IntKind.signed, IntKind.bits]; omega
theorem zqlg {x : Int} (h : 0 <= x /\ x < 4294967296) : keyOf Tryz.prog 23 (.int .u32 x) = some (klit x) := keyOf_int_mk Tryz.underlying23 (zrd5 h.1 h.2)
theorem LK : Keyed Tryz.prog 23 := int_keyed Tryz.underlying23
def Sm (w : World) (b : Nat) (D : DataW Value) : Prop := w.ownsMap Tryz.prog 23 hR b (Maps.size D) D
def SOk (S : DataW Value) (F : Int -> Nat -> Int) : Prop := ∀ v, S.atKey (klit v) (.held (.agg (ints .u8 32 zqd))) = .held (.agg (ints .u8 32 (F v)))
def UOk (U : DataW Value) : Prop := ∀ v, U.atKey (klit v) (.held (.bool false)) = .held (.bool (Maps.has U (klit v)))
theorem tight {w : World} {b n : Nat} {D : DataW Value} (h : w.ownsMap Tryz.prog 23 hR b n D) : Sm w b D := by
 obtain ⟨es, clock, h1, h2, h3, rfl⟩ := h;refine ⟨es, clock, h1, h2, ?_, rfl⟩
 simp [Maps.size, length_sorted]
theorem Sm.later {w w' : World} {b : Nat} {D : DataW Value} (h : Sm w b D) (hb : w'.heap[b]? = w.heap[b]?) : Sm w' b D := by
 obtain ⟨es, clock, h1, h2⟩ := h;exact ⟨es, clock, hb.trans h1, h2⟩
theorem Sm.drew {w : World} {b : Nat} {D : DataW Value} (h : Sm w b D) : Sm w.drew b D := h
theorem zqo4 {v : Value} {d : DataW Value} {ps : List MemPlace} {x : Value} (h : hR v = some (d, ps)) (e : d = .held x) : v = x := by
 subst e
 cases h
 rfl
theorem zrdo {w : World} {b : Nat} {S : DataW Value} {F : Int -> Nat -> Int} (h : Sm w b S) (hS : SOk S F) {x : Int} (hx : 0 <= x /\ x < 4294967296) :
  (Instr.lookup 63 (.map (some b)) (.int .u32 x) false).run Tryz.prog w = .ok (.agg (ints .u8 32 (F x))) w := by
 obtain ⟨v, ps, hr, hv⟩ := World.ownsMap.lookup h LK Tryz.underlying63 (zqbp w) (zd := .held (.agg (ints .u8 32 zqd))) rfl (zqlg hx);rw [hr, zqo4 hv (hS x)]
theorem zrez {w : World} {b : Nat} {S : DataW Value} {F : Int -> Nat -> Int} (h : Sm w b S) (hS : SOk S F) {x : Int} (hx : 0 <= x /\ x < 4294967296) :
  (Instr.lookup 63 (.map (some b)) (.int .u32 x) true).run Tryz.prog w = .ok (.tuple #[.agg (ints .u8 32 (F x)), .bool (Maps.has S (klit x))]) w := by
 obtain ⟨v, ps, hr, hv⟩ := World.ownsMap.look_ok h LK Tryz.underlying63 (zqbp w) (zd := .held (.agg (ints .u8 32 zqd))) rfl (zqlg hx);rw [hr, zqo4 hv (hS x)]
theorem zqy5 (w : World) : (zeroValue 4).run Tryz.prog w = .ok (.bool false) w := by kernel_rfl
theorem zrfh {w : World} {b : Nat} {U : DataW Value} (h : Sm w b U) (hU : UOk U) {x : Int} (hx : 0 <= x /\ x < 4294967296) :
  (Instr.lookup 57 (.map (some b)) (.int .u32 x) false).run Tryz.prog w = .ok (.bool (Maps.has U (klit x))) w := by
 obtain ⟨v, ps, hr, hv⟩ := World.ownsMap.lookup h LK Tryz.underlying57 (zqy5 w) (zd := .held (.bool false)) rfl (zqlg hx);rw [hr, zqo4 hv (hU x)]
structure Bz (B : List Nat) (w w' : World) : Prop where
 os : w'.os = w.os
 tape : w'.tape = w.tape
 output : w'.output = w.output
 size : w.heap.size <= w'.heap.size
 block : ∀ k, k < w.heap.size -> k ∉ B -> w'.heap[k]? = w.heap[k]?
theorem Bz.of {w w' : World} (B : List Nat) (h : Below w.heap.size w w') : Bz B w w' := ⟨h.os, h.tape, h.output, h.size, fun k hk _ => h.block k hk⟩
theorem Bz.trans {B : List Nat} {a b c : World} (h : Bz B a b) (k : Bz B b c) : Bz B a c :=
 ⟨k.os.trans h.os, k.tape.trans h.tape, k.output.trans h.output, Nat.le_trans h.size k.size, fun i hi hn => (k.block i (Nat.lt_of_lt_of_le hi h.size) hn).trans (h.block i hi hn)⟩
theorem Bz.grown {B : List Nat} {w w' : World} {b : Nat} (h : w.grownBy w' (some b)) (hb : b ∈ B) : Bz B w w' := ⟨h.os, h.tape, h.output, h.size, fun k hk hn => h.block k hk (fun e => hn (by cases e; exact hb))⟩
theorem Bz.below {B : List Nat} {n : Nat} {a w w' : World} (h : Below n a w) (k : Bz B w w') (hn : n <= w.heap.size) (hB : ∀ i ∈ B, n <= i) : Below n a w' :=
 h.trans ⟨k.os, k.tape, k.output, k.size, fun i hi => k.block i (by omega) (fun hm => by have := hB i hm; omega)⟩
theorem Bz.sub {B B2 : List Nat} {w w' : World} (h : Bz B w w') (hs : ∀ x ∈ B, x ∈ B2) : Bz B2 w w' := ⟨h.os, h.tape, h.output, h.size, fun k hk hn => h.block k hk (fun hm => hn (hs k hm))⟩
theorem Bz.keep {B : List Nat} {w w' : World} (h : Bz B w w') {k : Nat} {o : Obj} (hk : zqe w k = some o) (hn : k ∉ B) : zqe w' k = some o := (h.block k (zqa hk) hn).trans hk
theorem Bz.map {B : List Nat} {w w' : World} (h : Bz B w w') {k : Nat} {D : DataW Value} (hk : Sm w k D) (hn : k ∉ B) : Sm w' k D := hk.later (h.block k (World.ownsMap.lt hk) hn)
theorem zq7d {t e : TypeId} {w : World} {b : Nat} {D : DataW Value} (ht : Tryz.prog.underlying t = some (.map 23 e)) (h : Sm w b D) (hn : Maps.size D < 1000000000) {x : Int} (hx : 0 <= x /\ x < 4294967296) (v : Value) :
  ∃ w', (Instr.mapUpdate t (.map (some b)) (.int .u32 x) v).run Tryz.prog w = .ok () w' /\ Sm w' b (D.put (klit x) (.held v)) /\ Bz [b] w w' := by
 obtain ⟨w', h1, h2, h3⟩ := World.ownsMap.update h LK ht (by unfold maxLen; omega) (zqlg hx) (show hR v = some (.held v, []) from rfl);exact ⟨w', h1, tight h2, Bz.grown h3 (by simp)⟩
theorem zrjy {t e : TypeId} {w : World} {b : Nat} {D : DataW Value} (ht : Tryz.prog.underlying t = some (.map 23 e)) (h : Sm w b D) {x : Int} (hx : 0 <= x /\ x < 4294967296) (ty : TypeId) :
  ∃ w', (Builtin.delete_ #[t, 23] ty #[.map (some b), .int .u32 x]).run Tryz.prog w = .ok (.tuple #[]) w' /\ Sm w' b (D.del (klit x)) /\ Bz [b] w w' := by
 obtain ⟨w', h1, h2, h3⟩ := World.ownsMap.drop h LK ht (zqlg hx) ty;exact ⟨w', h1, tight h2, Bz.grown h3.grown (by simp)⟩
def updF (F : Int -> Nat -> Int) (x : Int) (k : Nat -> Int) : Int -> Nat -> Int := fun y => if y = x then k else F y
theorem SOk.put {S : DataW Value} {F : Int -> Nat -> Int} (h : SOk S F) (hm : IsMap S) (x : Int) (k : Nat -> Int) : SOk (S.put (klit x) (.held (.agg (ints .u8 32 k)))) (updF F x k) := fun v => by
 unfold updF
 by_cases e : v = x
 ·subst e
  rw [atKey_put_same hm (zqfs _), if_pos rfl]
 ·rw [atKey_put_other (fun h => e (zqg3 h)), if_neg e, h v]
theorem SOk.del {S : DataW Value} {F : Int -> Nat -> Int} (h : SOk S F) (x : Int) : SOk (S.del (klit x)) (updF F x zqd) := fun v => by
 unfold updF
 by_cases e : v = x
 ·subst e
  rw [atKey_del_same, if_pos rfl]
 ·rw [atKey_del_other (fun h => e (zqg3 h)), if_neg e, h v]
theorem UOk.put {U : DataW Value} (h : UOk U) (hm : IsMap U) (x : Int) : UOk (U.put (klit x) (.held (.bool true))) := fun v => by
 by_cases e : v = x
 ·subst e
  rw [atKey_put_same hm (zqfs _), has_put_same hm (zqfs _)]
 ·rw [atKey_put_other (fun h => e (zqg3 h)), has_put_other (fun h => e (zqg3 h)), h v]
theorem zqt6 {w : World} {g : Nat} {s : ByteArray} {F : Int} (h : zqe w g = some (.cells #[.string s, .iface 38 (.int .i64 F)] 94)) (hF : F ≠ 0) : ErV w (.iface 92 (.pointer (some ⟨g, 0, none⟩))) F := .inr ⟨hF, _, _, [s], rfl, g, _, rfl, h, rfl⟩
theorem zqhk {w : World} {g : Nat} {c : Array Value} {t : TypeId} (hg : zqe w g = some (.cells c t)) (ht : t ≠ 94) (cs : Array Value) : ∀ {l : List ByteArray} {b v : Value}, Chn w l b v -> Chn (w.setRow g cs) l b v
 | [], _, _, h => h
 | s :: l, b, v, ⟨k, u, e, hk, hu⟩ => ⟨k, u, e, zqk g cs hk (fun e => by rw [e, hg] at hk; exact ht (Obj.cells.inj (Option.some.inj hk)).2.1), zqhk hg ht cs hu⟩
theorem zqmu {w : World} {g : Nat} {c : Array Value} {t : TypeId} (hg : zqe w g = some (.cells c t)) (cs : Array Value) (ht : t ≠ 94) {v : Value} {E : Int} (h : ErV w v E) : ErV (w.setRow g cs) v E := by
 rcases h with h | ⟨h0, t, x, l, e, hc⟩
 ·exact .inl h
 ·exact .inr ⟨h0, t, x, l, e, zqhk hg ht cs hc⟩
structure VAt (w : World) (b bs bu : Nat) (S U : DataW Value) (F : Int -> Nat -> Int) : Prop where
 o : zqe w b = some (.cells #[.map (some bs), .map (some bu)] 65 (0, 0))
 s : Sm w bs S
 u : Sm w bu U
 ne : bs ≠ bu
 hS : SOk S F
 hU : UOk U
theorem VAt.nb {w : World} {b bs bu : Nat} {S U : DataW Value} {F : Int -> Nat -> Int} (h : VAt w b bs bu S U F) : b ≠ bs /\ b ≠ bu := by
 obtain ⟨es, c, h1, -⟩ := h.s;obtain ⟨es', c', h2, -⟩ := h.u;have h0 : w.heap[b]? = _ := h.o;exact ⟨fun e => (by rw [e, h1] at h0; cases h0), fun e => (by rw [e, h2] at h0; cases h0)⟩
theorem VAt.later {w w' : World} {b bs bu : Nat} {S U : DataW Value} {F : Int -> Nat -> Int} (h : VAt w b bs bu S U F) (hb : Below w.heap.size w w') : VAt w' b bs bu S U F :=
 ⟨zqc hb h.o, h.s.later (hb.block _ (World.ownsMap.lt h.s)), h.u.later (hb.block _ (World.ownsMap.lt h.u)), h.ne, h.hS, h.hU⟩
theorem VAt.row {w : World} {b bs bu : Nat} {S U : DataW Value} {F : Int -> Nat -> Int} (h : VAt w b bs bu S U F) {g : Nat} {c : Array Value} (hg : zqe w g = some (.cells c 29)) (cs : Array Value) : VAt (w.setRow g cs) b bs bu S U F := by
 have n1 : ∀ k (D : DataW Value), Sm w k D -> k ≠ g := fun k D ⟨es, c, h1, _⟩ e => by
  unfold zqe at hg;rw [<- e, h1] at hg
  cases hg
 have n2 : b ≠ g := fun e => by
  have := h.o;rw [e, hg] at this
  cases this
 have hh : ∀ k, k ≠ g -> (w.setRow g cs).heap[k]? = w.heap[k]? := fun k hk => zq1 w g k cs hk;exact ⟨zqk g cs h.o n2, h.s.later (hh _ (n1 _ _ h.s)), h.u.later (hh _ (n1 _ _ h.u)), h.ne, h.hS, h.hU⟩
theorem Bz.row {B : List Nat} {w w' : World} (h : Bz B w w') {g : Nat} {c : Array Value} {t : TypeId} {fr : Nat × Nat} (hg : zqe w' g = some (.cells c t fr)) (cs : Array Value) (hn : w.heap.size <= g) : Bz B w (w'.setRow g cs) :=
 ⟨h.os, h.tape, h.output, by rw [zq0]; exact h.size, fun k hk hm => (zq1 w' g k cs (by omega)).trans (h.block k hk hm)⟩
theorem lenM {t e : TypeId} {w : World} {b : Nat} {D : DataW Value} (ht : Tryz.prog.underlying t = some (.map 23 e)) (h : Sm w b D) (ty : TypeId) : (Builtin.len_ #[t] ty #[.map (some b)]).run Tryz.prog w = .ok (.int .i64 (Maps.size D)) w := World.ownsMap.len h ht ty
theorem zq5w (w : World) : Calls Tryz.prog 7 #[] w fun e w' => ∃ b bs bu, e = .returned (.pointer (some ⟨b, 0, none⟩)) /\ VAt w' b bs bu (.map []) (.map []) (fun _ => zqd) /\ (w.heap.size <= b /\ w.heap.size <= bs /\ w.heap.size <= bu) /\ Below w.heap.size w w' := by
 have hmm := @run_makeMap Tryz.prog
 go_enter Tryz.func7, Tryz.ntmps7
 go_wp2;go_ret;refine ⟨_, w.heap.size, w.heap.size + 1, rfl, ⟨zqg _ _ _ (by first | rfl | simp), ?_, ?_, by omega, fun _ => rfl, fun _ => rfl⟩, ⟨by first | omega | simp | (simp; omega), by omega, by omega⟩, Grew.alloc (Grew.alloc (Grew.alloc (Grew.refl _) _) _) _⟩
 ·exact World.ownsMap.alloc (World.ownsMap.alloc (World.ownsMap_made w _ _ _) _) _
 ·have := World.ownsMap.alloc (World.ownsMap_made (w.alloc (.map #[] 0)) Tryz.prog 23 hR) (.cells #[.map (some w.heap.size), .map (some (w.heap.size + 1))] 65)
  rw [show (w.alloc (.map #[] 0)).heap.size = w.heap.size + 1 by simp] at this;exact this
theorem zquf {w : World} {b bs bu : Nat} {S U : DataW Value} {F : Int -> Nat -> Int} (h : VAt w b bs bu S U F) {x : Int} (hx : 0 <= x /\ x < 4294967296) :
  Calls Tryz.prog 27 #[.pointer (some ⟨b, 0, none⟩), .int .u32 x] w (Rt w (.bool (Maps.has S (klit x)))) := by
 have l := zrez h.s h.hS hx;have fo := h.o;have lo := zqa fo;clear h
 go_enter Tryz.func27, Tryz.ntmps27
 go_wp2;go_ret;exact ⟨rfl, Grew.alloc (Grew.refl _) _⟩
def pkE (S U : DataW Value) (x : Int) : Int := if Maps.has U (klit x) then 11 else if Maps.has S (klit x) then 0 else 10
theorem zqpc {w : World} {b bs bu : Nat} {S U : DataW Value} {F : Int -> Nat -> Int} (h : VAt w b bs bu S U F) {x : Int} (hx : 0 <= x /\ x < 4294967296) :
  Calls Tryz.prog 8 #[.pointer (some ⟨b, 0, none⟩), .int .u32 x] w fun e w' => ∃ u, e = .returned (.tuple #[.agg (ints .u8 32 (if pkE S U x = 0 then F x else zqd)), u]) /\ ErV w' u (pkE S U x) /\ Below w.heap.size w w' := by
 have hG := Grew.alloc (Grew.refl w) (.cells (ints .u8 32 zqd) 29);have H1 := h.later hG;have fr : zqe (w.alloc (.cells (ints .u8 32 zqd) 29)) w.heap.size = some (.cells (ints .u8 32 zqd) 29) := zqg _ _ _ rfl;have fo := H1.o;have lo := zqa fo;have lr := zqa fr;have l1 := zrfh H1.u H1.hU hx;clear h;have cH := zquf H1 hx
 rcases hu : Maps.has U (klit x) with _ | _
 ·rw [hu] at l1
  rcases hs : Maps.has S (klit x) with _ | _
  ·have e1 : pkE S U x = 10 := by unfold pkE; rw [hu, hs]; rfl
   rw [hs] at cH;rw [e1, if_neg (by decide)]
   go_enter Tryz.func8, Tryz.ntmps8
   go_wp2_with fail;refine cH.mono ?_
   rintro e w2 ⟨rfl, hb⟩;have H2 := H1.later hb;have fr2 := zqc hb fr;have lr2 := zqa fr2;have fo2 := H2.o;have lo2 := zqa fo2;have hG2 := Grew.trans hG hb;have l2 := zrdo H2.s H2.hS hx;clear H1 fr lr fo lo l1;go_wp2_with fail;refine (wrap_any _ _ _ _).mono ?_
   rintro e w3 ⟨rfl, rfl⟩;go_wp2;refine zqa2 rfl _ 29 (ints .u8 32 zqd) (0, 0) _ _ rfl rfl (zqj _ (zqq _ fr2)) Tryz.underlying29 rfl (by rw [zqi]; kernel_rfl) rfl ⟨_, rfl, zqt6 (F := 10) (zqg _ _ _ (by simp)) (by decide), by exact zqf⟩
  ·have e1 : pkE S U x = 0 := by unfold pkE; rw [hu, hs]; rfl
   rw [hs] at cH;rw [e1, if_pos rfl]
   go_enter Tryz.func8, Tryz.ntmps8
   go_wp2_with fail;refine cH.mono ?_
   rintro e w2 ⟨rfl, hb⟩;have H2 := H1.later hb;have fr2 := zqc hb fr;have lr2 := zqa fr2;have fo2 := H2.o;have lo2 := zqa fo2;have hG2 := Grew.trans hG hb;have l2 := zrdo H2.s H2.hS hx;clear H1 fr lr fo lo l1;go_wp2;refine zqa2 rfl _ 29 (ints .u8 32 (F x)) (0, 0) _ _ rfl rfl (zqq _ fr2) Tryz.underlying29 rfl (by rw [zqi]; kernel_rfl) rfl ⟨_, rfl, .inl ⟨rfl, rfl⟩, by exact zqf⟩
 ·rw [hu] at l1
  have e1 : pkE S U x = 11 := by unfold pkE; rw [hu]; rfl
  rw [e1, if_neg (by decide)];clear cH
  go_enter Tryz.func8, Tryz.ntmps8
  go_wp2_with fail;refine (wrap_any _ _ _ _).mono ?_
  rintro e w3 ⟨rfl, rfl⟩;go_wp2;refine zqa2 rfl _ 29 (ints .u8 32 zqd) (0, 0) _ _ rfl rfl (zqj _ fr) Tryz.underlying29 rfl (by rw [zqi]; kernel_rfl) rfl ⟨_, rfl, zqt6 (F := 11) (zqg _ _ _ (by simp)) (by decide), by exact zqf⟩
theorem zqqv (x : Int) (w : World) :
  Calls Tryz.prog 8 #[.pointer none, .int .u32 x] w fun e w' => ∃ u, e = .returned (.tuple #[.agg (ints .u8 32 zqd), u]) /\ ErV w' u 20 /\ Below w.heap.size w w' := by
 have fr : zqe (w.alloc (.cells (ints .u8 32 zqd) 29)) w.heap.size = some (.cells (ints .u8 32 zqd) 29) := zqg _ _ _ rfl
 go_enter Tryz.func8, Tryz.ntmps8
 go_wp2_with fail;refine (wrap_any _ _ _ _).mono ?_
 rintro e w3 ⟨rfl, rfl⟩;go_wp2;refine zqa2 rfl _ 29 (ints .u8 32 zqd) (0, 0) _ _ rfl rfl (zqj _ fr) Tryz.underlying29 rfl (by rw [zqi]; kernel_rfl) rfl ⟨_, rfl, zqt6 (F := 20) (zqg _ _ _ (by simp)) (by decide), by exact zqf⟩
theorem zqpl (p : Value) (x E : Int) (w : World) (hE : E ≠ 0) (hp : ∀ W, Below w.heap.size w W -> Calls Tryz.prog 8 #[p, .int .u32 x] W fun e w' => ∃ u, e = .returned (.tuple #[.agg (ints .u8 32 zqd), u]) /\ ErV w' u E /\ Below W.heap.size W w') :
  Calls Tryz.prog 9 #[p, .int .u32 x] w fun e w' => ∃ u, e = .returned (.tuple #[.agg (ints .u8 32 zqd), u]) /\ ErV w' u E /\ Below w.heap.size w w' := by
 have hG := Grew.alloc (Grew.refl w) (.cells (ints .u8 32 zqd) 29);have fr : zqe (w.alloc (.cells (ints .u8 32 zqd) 29)) w.heap.size = some (.cells (ints .u8 32 zqd) 29) := zqg _ _ _ rfl;have cP := hp _ hG
 go_enter Tryz.func9, Tryz.ntmps9
 go_wp2_with fail;refine cP.mono ?_
 rintro e w2 ⟨u, rfl, hu, hb⟩;obtain ⟨t, y, l, rfl, hc⟩ := (hu.resolve_left (fun h => hE h.1)).2;have fr2 := zqc hb fr;have lr2 := zqa fr2;have hG2 := Grew.trans hG hb;go_wp2;refine zqa2 rfl _ 29 (ints .u8 32 zqd) (0, 0) _ _ rfl rfl (zqj _ (zqq _ fr2)) Tryz.underlying29 rfl (by rw [zqi]; kernel_rfl) rfl ⟨_, rfl, (zqmu fr2 _ (by decide) hu).later (Grew.alloc (Grew.refl _) _), by exact zqf⟩
theorem zq4m {w : World} {b bs bu : Nat} {S U : DataW Value} {F : Int -> Nat -> Int} (h : VAt w b bs bu S U F) {x : Int} (hx : 0 <= x /\ x < 4294967296) (h0 : pkE S U x = 0) (hn : Maps.size U < 1000000000) :
  Calls Tryz.prog 9 #[.pointer (some ⟨b, 0, none⟩), .int .u32 x] w fun e w' => e = .returned (.tuple #[.agg (ints .u8 32 (F x)), .nilIface]) /\ VAt w' b bs bu (S.del (klit x)) (U.put (klit x) (.held (.bool true))) (updF F x zqd) /\ Bz [bs, bu] w w' := by
 have hG := Grew.alloc (Grew.refl w) (.cells (ints .u8 32 zqd) 29);have H1 := h.later hG;have fr : zqe (w.alloc (.cells (ints .u8 32 zqd) 29)) w.heap.size = some (.cells (ints .u8 32 zqd) 29) := zqg _ _ _ rfl;have cP := zqpc H1 hx;rw [h0, if_pos rfl] at cP;have hlt := zqa h.o;have hls := World.ownsMap.lt h.s;have hlu := World.ownsMap.lt h.u;have nr : w.heap.size ∉ [bs] /\ w.heap.size ∉ [bu] := ⟨by simp; omega, by simp; omega⟩
 clear h
 go_enter Tryz.func9, Tryz.ntmps9
 go_wp2_with fail;refine cP.mono ?_
 rintro e w2 ⟨u, rfl, hu, hb⟩;obtain rfl : u = .nilIface := by
  rcases hu with ⟨-, h⟩ | ⟨h, -⟩
  ·exact h
  ·exact absurd rfl h
 have hG3 : Below w.heap.size w (w2.alloc (.cells (ints .u8 32 (F x)) 29)) := Grew.alloc (Grew.trans hG hb) _;have H3 := (H1.later hb).later (Grew.alloc (Grew.refl w2) (.cells (ints .u8 32 (F x)) 29));have fr3 := zqj (.cells (ints .u8 32 (F x)) 29) (zqc hb fr);have ft3 : zqe (w2.alloc (.cells (ints .u8 32 (F x)) 29)) w2.heap.size = some (.cells (ints .u8 32 (F x)) 29) := zqg _ _ _ rfl;have hws := (Grew.trans hG hb).size;have nt : w2.heap.size ∉ [bs] /\ w2.heap.size ∉ [bu] := ⟨by simp; omega, by simp; omega⟩
 clear hu cP H1 fr;have hnb := H3.nb;have hne := H3.ne;obtain ⟨w4, e4, s4, z4⟩ := zrjy (e := 29) Tryz.underlying63 H3.s hx 0;have o4 := z4.keep H3.o (by simp; exact hnb.1);have u4 := z4.map H3.u (by simp; exact fun h => hne h.symm);have fr4 := z4.keep fr3 nr.1;have ft4 := z4.keep ft3 nt.1;obtain ⟨w5, e5, u5, z5⟩ := zq7d (e := 4) Tryz.underlying57 u4 hn hx (.bool true);have o5 := z5.keep o4 (by simp; exact hnb.2);have s5 := z5.map s4 (by simp; exact hne);have fr5 := z5.keep fr4 nr.2;have ft5 := z5.keep ft4 nt.2;have V5 : VAt w5 b bs bu (S.del (klit x)) (U.put (klit x) (.held (.bool true))) (updF F x zqd) := ⟨o5, s5, u5, hne, H3.hS.del x, H3.hU.put (World.ownsMap.isMap H3.u) x⟩
 have hz : Bz [bs, bu] w w5 := ((Bz.of _ hG3).trans (z4.sub (by simp))).trans (z5.sub (by simp));have o3 := H3.o;have l3 := zqa o3;have l4 := zqa o4;have lt5 := zqa ft5;have lr5 := zqa fr5;clear H3 fr3 ft3 fr4 ft4 nr nt hlt hls hlu;go_wp2;refine zqa2 rfl _ 29 (ints .u8 32 (F x)) (0, 0) _ _ rfl rfl (zqq _ fr5) Tryz.underlying29 rfl (by rw [zqi]; kernel_rfl) rfl ⟨rfl, V5.row fr5 _, hz.row fr5 _ (by omega)⟩
theorem zq9n {w : World} {b bs bu : Nat} {S U : DataW Value} {F : Int -> Nat -> Int} (h : VAt w b bs bu S U F) {x : Int} (hx : 0 <= x /\ x < 4294967296) (k : Nat -> Int) (h1 : Maps.has S (klit x) = false) (h2 : Maps.has U (klit x) = false) (hn : Maps.size S < 64) :
  Calls Tryz.prog 13 #[.pointer (some ⟨b, 0, none⟩), .int .u32 x, .agg (ints .u8 32 k)] w fun e w' => e = .returned .nilIface /\ VAt w' b bs bu (S.put (klit x) (.held (.agg (ints .u8 32 k)))) U (updF F x k) /\ Bz [bs] w w' := by
 have hG := Grew.alloc (Grew.refl w) (.cells (ints .u8 32 k) 29);have H1 := h.later hG;have fk : zqe (w.alloc (.cells (ints .u8 32 k) 29)) w.heap.size = some (.cells (ints .u8 32 k) 29) := zqg _ _ _ rfl;have cH := zquf H1 hx;rw [h1] at cH;have hlt := zqa h.o;clear h
 go_enter Tryz.func13, Tryz.ntmps13
 go_wp2_with fail;refine cH.mono ?_
 rintro e w2 ⟨rfl, hb⟩;have H2 := H1.later hb;have hG2 := Grew.trans hG hb;have fk2 := zqc hb fk;have lk2 := zqa fk2;have l2 := zrfh H2.u H2.hU hx;rw [h2] at l2;have o2 := H2.o;have lo2 := zqa o2;have n2 := fun ty => lenM (e := 29) Tryz.underlying63 H2.s ty;have hnn : ¬ (64 <= (Maps.size S : Int)) := by omega
 have hnb := H2.nb;have hne := H2.ne;obtain ⟨w3, e3, s3, z3⟩ := zq7d (w := w2.drew) (e := 29) Tryz.underlying63 H2.s.drew (by omega) hx (.agg (ints .u8 32 k));clear H1 cH fk;go_wp2_with fail
 go_region
 go_wp2;go_ret;exact ⟨rfl, ⟨z3.keep o2 (by simp; exact hnb.1), s3, z3.map H2.u (by simp; exact fun h => hne h.symm), hne, H2.hS.put (World.ownsMap.isMap H2.s) x k, H2.hU⟩, (Bz.of _ hG2).trans ⟨z3.os, z3.tape, z3.output, z3.size, z3.block⟩⟩
theorem zq4v (x : Int) (k : Nat -> Int) (w : World) :
  Calls Tryz.prog 13 #[.pointer none, .int .u32 x, .agg (ints .u8 32 k)] w fun e w' => ∃ u, e = .returned u /\ ErV w' u 20 /\ Below w.heap.size w w' := by
 go_enter Tryz.func13, Tryz.ntmps13
 go_wp2_with fail;refine (wrap_any _ _ _ _).mono ?_
 rintro e w3 ⟨rfl, rfl⟩;go_wp2;go_ret;exact ⟨_, rfl, zqt6 (F := 20) (zqg _ _ _ (by simp)) (by decide), by exact zqf⟩
theorem zqn6 (w : World) : Calls Tryz.prog 23 #[.pointer none] w fun e w' => e = .returned (.slice none 0 0) /\ w' = w := by
 go_enter Tryz.func23, Tryz.ntmps23
 go_wp2;go_ret;exact ⟨rfl, rfl⟩
theorem zqqw (w : World) : Calls Tryz.prog 22 #[.pointer none] w fun e w' => e = .returned (.slice none 0 0) /\ w' = w := by
 go_enter Tryz.func22, Tryz.ntmps22
 go_wp2;go_ret;exact ⟨rfl, rfl⟩
theorem zqqu (w : World) : Calls Tryz.prog 16 #[.pointer none] w fun e w' => e = .returned (.slice none 0 0) /\ w' = w := by
 go_enter Tryz.func16, Tryz.ntmps16
 go_wp2_with fail;refine (zqn6 _).mono ?_
 rintro e w2 ⟨rfl, rfl⟩;go_wp2;refine wp_loop_rounds 1 ?_
 rw [rounds_succ];go_wp2;go_ret;exact ⟨rfl, rfl⟩
theorem zq0t (w : World) : Calls Tryz.prog 24 #[.pointer none] w fun e w' => e = .returned (.int .u32 0) /\ w' = w := by
 have ha : ∀ W : World, (zqr #[59, 59] 59 #[.slice none 0 0, .slice none 0 0]).run Tryz.prog W = .ok (.value (.slice none 0 0)) W := fun W => by kernel_rfl
 go_enter Tryz.func24, Tryz.ntmps24
 go_wp2_with fail;refine (zqn6 _).mono ?_
 rintro e w2 ⟨rfl, rfl⟩;go_wp2_with fail;refine (zqqw _).mono ?_
 rintro e w2 ⟨rfl, rfl⟩;go_wp2;go_ret;exact ⟨rfl, rfl⟩
theorem zqwv (w : World) : Calls Tryz.prog 12 #[.pointer none] w fun e w' => e = .returned (.pointer none) /\ w' = w := by
 go_enter Tryz.func12, Tryz.ntmps12
 go_wp2;go_ret;exact ⟨rfl, rfl⟩
theorem zqso (x : Int) (w : World) : Calls Tryz.prog 19 #[.pointer none, .int .u32 x] w (Rt w (.agg #[.int .u32 0, .slice none 0 0])) := by
 go_enter Tryz.func19, Tryz.ntmps19
 go_wp2;refine zqag rfl _ 53 #[.int .u32 0, .slice none 0 0] (0, 0) _ rfl (zqg _ _ _ rfl) Tryz.underlying53 rfl rfl rfl ⟨rfl, by exact zqf⟩
theorem zqu4 {w W : World} {u : Value} {E : Int} (h : ErV w u E) (hb : Below w.heap.size w W) (E' : Int) (h0 : E ≠ 0) : Calls Tryz.prog 21 #[u, .int .i64 E'] W fun e w' => e = .returned (.bool (decide (E = E'))) /\ w' = W := by
 obtain ⟨t, x, l, rfl, hc⟩ := (h.resolve_left (fun h => h0 h.1)).2;exact Is_e E E' l _ W (hc.later hb)
@[local go_sem] theorem zrg7 (w : World) : (zqcs (.int .u8 5)).run Tryz.prog w = .ok (.value (.agg (ints .u8 32 (upd zqd 0 5)))) w := by kernel_rfl
theorem zqta (aw : ∀ (w : World), Tabs w -> EtAt w -> Calls Tryz.prog 42 #[] w (Rt w (.bool true))) (w : World) (hT : Tabs w) (hE : EtAt w) :
  Calls Tryz.prog 25 #[] w (Rt w (.bool true)) := by
 go_enter Tryz.func25, Tryz.ntmps25
 go_wp2_with fail;refine (aw _ hT hE).mono ?_
 rintro e w2 ⟨rfl, hb⟩;go_wp2;go_ret;exact ⟨rfl, hb⟩
theorem zqsz (aw : ∀ (w : World), Tabs w -> EtAt w -> Calls Tryz.prog 25 #[] w (Rt w (.bool true))) (w : World) (hT : Tabs w) (hE : EtAt w) :
  Calls Tryz.prog 6 #[] w (Rt w (.bool true)) := by
 have HT : Hid (Tabs w) := hT;have HE : Hid (EtAt w) := hE;have cW := fun (W : World) (hb : Below w.heap.size w W) => aw W (HT.out.later hb) (HE.out.later hb);clear hT hE aw
 go_enter Tryz.func6, Tryz.ntmps6
 go_wp2_with fail;refine (zq5w _).mono ?_
 rintro e w1 ⟨b, bs, bu, rfl, V1, hB, hG1⟩;go_wp2_with fail;refine (zq9n V1 (x := 0) (by decide) (upd zqd 0 5) rfl rfl (by decide)).mono ?_
 rintro e w2 ⟨rfl, V2, z2⟩;have hG2 := z2.below hG1 hG1.size (by simp; omega);clear V1 z2 hG1;have cT := zq4m V2 (x := 0) (by decide) (by decide) (by decide);rw [show updF (fun _ => zqd) 0 (upd zqd 0 5) 0 = upd zqd 0 5 from rfl] at cT;go_wp2_with fail;refine cT.mono ?_
 rintro e w3 ⟨rfl, V3, z3⟩;have hG3 := z3.below hG2 hG2.size (by simp; omega);clear V2 z3 hG2 cT;have f4 := zqg w3 (.cells (ints .u8 32 (upd zqd 0 5)) 29) w3.heap.size rfl;have V4 := V3.later (Grew.alloc (Grew.refl w3) (.cells (ints .u8 32 (upd zqd 0 5)) 29));have hG4 := Grew.alloc hG3 (.cells (ints .u8 32 (upd zqd 0 5)) 29);clear V3 hG3;go_wp2_with fail;generalize w3.alloc (.cells (ints .u8 32 (upd zqd 0 5)) 29) = w4 at *;have cE : ∀ W, Below w4.heap.size w4 W -> Calls Tryz.prog 8 #[.pointer (some ⟨b, 0, none⟩), .int .u32 0] W fun e w' => ∃ u, e = .returned (.tuple #[.agg (ints .u8 32 zqd), u]) /\ ErV w' u 11 /\ Below W.heap.size W w' := fun W hb => zqpc (V4.later hb) (x := 0) (by decide);clear V4;refine (zqpl _ 0 11 w4 (by decide) cE).mono ?_
 rintro e w5 ⟨u, rfl, hu, hb⟩;clear cE;have hG5 := Grew.trans hG4 hb;have f5 := zqc hb f4;have l5 := zqa f5;clear hG4 hb f4;go_wp2_with fail;refine (cW _ (Grew.alloc hG5 _)).mono ?_
 rintro e w6 ⟨rfl, hb⟩;have hG6 := Grew.trans (Grew.alloc hG5 _) hb;have f6 := zqc hb (zqj _ f5);have l6 := zqa f6;have hu6 := (hu.later (Grew.alloc (Grew.refl _) _)).later hb;clear hu hG5 hb f5 cW;go_wp2_with fail;refine (zqu4 hu6 (Below.refl _ _) 11 (by decide)).mono ?_
 rintro e w7 ⟨rfl, rfl⟩;go_wp2;go_ret;exact ⟨by simp [zqdv], hG6⟩
theorem zqod (aw : ∀ (w : World), Tabs w -> EtAt w -> Calls Tryz.prog 6 #[] w (Rt w (.bool true))) (w : World) (hT : Tabs w) (hE : EtAt w) :
  Calls Tryz.prog 5 #[] w (Rt w (.bool true)) := by
 have HT : Hid (Tabs w) := hT;have HE : Hid (EtAt w) := hE;have cW := fun (W : World) (hb : Below w.heap.size w W) => aw W (HT.out.later hb) (HE.out.later hb);clear hT hE aw;have hf : ∀ W : World, (Instr.field 53 (.agg #[.int .u32 0, .slice none 0 0]) 1).run Tryz.prog W = .ok (.slice none 0 0) W := fun W => by kernel_rfl
 go_enter Tryz.func5, Tryz.ntmps5
 go_wp2_with fail;refine (zqqv 0 _).mono ?_
 rintro e w1 ⟨u1, rfl, h1, hG⟩;go_wp2_with fail;refine (zqpl _ 0 20 _ (by decide) fun W _ => zqqv 0 W).mono ?_
 rintro e w2 ⟨u2, rfl, h2, hb⟩;replace h1 := (h1.later (Grew.alloc (Grew.refl w1) (.cells (ints .u8 32 zqd) 29))).later hb;replace hG := Grew.trans (Grew.alloc hG (.cells (ints .u8 32 zqd) 29)) hb;clear hb;go_wp2_with fail;refine (cW _ (Grew.alloc hG _)).mono ?_
 rintro e w3 ⟨rfl, hb⟩;replace h1 := (h1.later (Grew.alloc (Grew.refl w2) (.cells (ints .u8 32 zqd) 29))).later hb;replace h2 := (h2.later (Grew.alloc (Grew.refl w2) (.cells (ints .u8 32 zqd) 29))).later hb;replace hG := Grew.trans (Grew.alloc hG (.cells (ints .u8 32 zqd) 29)) hb;clear hb cW;go_wp2_with fail;refine (zqu4 h1 (Below.refl _ _) 20 (by decide)).mono ?_
 rintro e _ ⟨rfl, rfl⟩;go_wp2_with fail;refine (zqu4 h2 (Below.refl _ _) 20 (by decide)).mono ?_
 rintro e _ ⟨rfl, rfl⟩;go_wp2_with fail;refine (zq4v 0 zqd _).mono ?_
 rintro e w4 ⟨u3, rfl, h3, hb⟩;replace hG := Grew.trans hG hb;clear h1 h2 hb;go_wp2_with fail;refine (zqu4 h3 (Below.refl _ _) 20 (by decide)).mono ?_
 rintro e _ ⟨rfl, rfl⟩;go_wp2_with fail;refine (zqn6 _).mono ?_
 rintro e _ ⟨rfl, rfl⟩;go_wp2_with fail;refine (zqqu _).mono ?_
 rintro e _ ⟨rfl, rfl⟩;go_wp2_with fail;refine (zqqw _).mono ?_
 rintro e _ ⟨rfl, rfl⟩;go_wp2_with fail;refine (zq0t _).mono ?_
 rintro e _ ⟨rfl, rfl⟩;go_wp2_with fail;refine (zqso 3 _).mono ?_
 rintro e w5 ⟨rfl, hb⟩;replace hG := Grew.trans hG hb;clear hb h3;go_wp2_with fail;refine (zqwv _).mono ?_
 rintro e _ ⟨rfl, rfl⟩;go_wp2;go_ret;exact ⟨rfl, hG⟩
end Go.Proofs.YtfglcifnjaknnaaGreatDoor
