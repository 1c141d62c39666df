/- Ow -/
import Derived.Test.YtnjghcnhcbobhaaGreatDoorFrame
import Derived.Test.YtnjghcnhcbobhaaGreatDoorSt
import Derived.Test.YtnjghcnhcbobhaaGreatDoorTie
import Derived.Test.YtnjghcnhcbobhaaGreatDoorCards
import Derived.ProofKit
import Derived.LaidMore
import Derived.Lay
import Derived.SevenTiedAt
import Derived.Stop.Joined
import Derived.Test.YtnjghcnhcbobhaaGreatDoorSi
import Derived.Lib.AppendStr
import Derived.Deep.AppendLies
import Derived.Test.YtnjghcnhcbobhaaGreatDoorRel
import Derived.Test.YtnjghcnhcbobhaaGreatDoorSw
set_option linter.unusedVariables false
set_option linter.unusedSimpArgs false
set_option maxRecDepth 100000
set_option maxHeartbeats 4000000
namespace Go.Proofs.YtnjghcnhcbobhaaGreatDoor
open Go.ChangeShapes Go.WideShapes Go.ChangeAt Go.RowKit
open Go.ChangeMaps (open_string shut_string)
theorem open_table {enc : TypeId × Value -> Unit} {P : Program} {W : World} {base : Nat} {sp : Nat -> Bool} {held : Bool} {t e : TypeId} {n fuel : Nat} {cs : Array Value} {l : List Int} {p : List MemPlace}
  (hu : P.underlying t = some (.array n e)) (he : P.underlying e = some (.int .u32)) (hc : P.cellsOf e = 1) (hs : P.cellsOf t = n)
  (h : DataW.trod enc P W base sp held fuel t cs.toList = some (.agg (l.map fun z => .lit (.int .u32 z)), p)) : cs = ints .u32 n (fun i => l.getD i 0) := by
 obtain ⟨xs, m, _, hx, hlen, hn, hel⟩ := DataW.trod_array hu h
 simp only [Prod.mk.injEq, DataW.agg.injEq] at hx
 have hsz : cs.size = n := by rw [<- hs]; simpa using hlen
 apply Array.ext_getElem?
 intro i
 by_cases hi : i < n
 ·rw [zqal _ _ _ _ hi]
  have h1 := hel i hi;rw [hc, Nat.mul_one, List.getElem?_eq_getElem (by omega)] at h1;obtain ⟨z, e1, e2, _⟩ := DataW.trod_int he h1;have e3 := congrArg (fun l => l[i]?) hx.1
  simp only [List.getElem?_map] at e3
  rw [List.getElem?_eq_getElem (by omega : i < xs.length), e2] at e3
  cases hl : l[i]? with
  | none => rw [hl] at e3; simp at e3
  | some y =>
   rw [hl] at e3
   simp only [Option.map_some, Option.some.injEq, DataW.lit.injEq, Lit.int.injEq, true_and] at e3
   rw [List.getD_eq_getElem?_getD, hl, Option.getD_some, e3];have h2 : ((cs.toList.drop i).take 1)[0]? = some (.int .u32 z) := by rw [e1]; rfl
   simpa using h2
 ·rw [Array.getElem?_eq_none (by omega), Array.getElem?_eq_none (by rw [zqj]; omega)]
theorem zqol {P : Program} {W : World} {nm : String} {g : Nat} {cs : Array Value} (hg : P.globalNamed nm = some g) (hv : W.var? P nm = some cs) (hf : ∀ c t fr, W.heap[g]? = some (.cells c t fr) -> fr = (0, 0)) : ∃ t, zqd W g = some (.cells cs t (0, 0)) := by
 unfold World.var? at hv;rw [hg] at hv
 simp only [Option.bind_some] at hv
 split at hv
 ·rename_i c t fr hh
  obtain rfl := Option.some.inj hv;obtain rfl := hf _ _ _ hh;exact ⟨t, hh⟩
 ·cases hv
theorem zqrh {W : World} (h : laidMetH Tryz.prog [("sapwood/sha.square", Rows.laid_sapwood_sha_square), ("sapwood/sha.cube", Rows.laid_sapwood_sha_cube)] W) : Tabs W := by
 rw [MakeChecks.laidMetH_plain _ _ _ zqb] at h;obtain ⟨ps, ⟨g0, t0, cs0, f0, p0, q0, hg0, ht0, hv0, hd0, ⟨g1, t1, cs1, f1, p1, q1, hg1, ht1, hv1, hd1, hq1, hq0⟩, hps⟩, _, hcell⟩ := h;have G0 : Tryz.prog.globalNamed "sapwood/sha.square" = some 1 := by kernel_rfl
 have G1 : Tryz.prog.globalNamed "sapwood/sha.cube" = some 2 := by kernel_rfl
 obtain rfl := Option.some.inj (G0.symm.trans hg0);obtain rfl := Option.some.inj (G1.symm.trans hg1);have T0 : (Tryz.prog.globals[1]?).map (·.type) = some 192 := by kernel_rfl
 have T1 : (Tryz.prog.globals[2]?).map (·.type) = some 253 := by kernel_rfl
 obtain rfl := Option.some.inj (T0.symm.trans ht0);obtain rfl := Option.some.inj (T1.symm.trans ht1);have e0 := open_table (l := zq2q) Tryz.underlying192 Tryz.underlying22 zqb zqb hd0;have e1 := open_table (l := zriv) Tryz.underlying253 Tryz.underlying22 zqb zqb hd1;subst e0;subst e1;refine ⟨zqol G0 hv0 fun c t fr hh => ?_, zqol G1 hv1 fun c t fr hh => ?_⟩
 ·have hm : MemPlace.cell 1 0 ∈ ps := by
   rw [hps];refine List.mem_append_left _ (List.mem_append_left _ (List.mem_map.2 ⟨0, ?_, rfl⟩));rw [List.mem_range, zqj]; decide
  obtain ⟨⟨c', t', hh'⟩, _⟩ := hcell _ _ hm;rw [hh] at hh'
  cases hh'
  rfl
 ·have hm : MemPlace.cell 2 0 ∈ ps := by
   rw [hps, hq0];refine List.mem_append_right _ (List.mem_append_left _ (List.mem_append_left _ (List.mem_map.2 ⟨0, ?_, rfl⟩)));rw [List.mem_range, zqj]; decide
  obtain ⟨⟨c', t', hh'⟩, _⟩ := hcell _ _ hm;rw [hh] at hh'
  cases hh'
  rfl
end Go.Proofs.YtnjghcnhcbobhaaGreatDoor
namespace Go.Proofs.YtnjghcnhcbobhaaGreatDoor
open Go.RowKit Go.Lib
def rowL (k : IntKind) (G : Nat -> Int) (n : Nat) : List Value := (List.range n).map fun i => Value.int k (G i)
theorem zqpq (k : IntKind) (G : Nat -> Int) (n : Nat) : (rowL k G n).length = n := by simp [rowL]
theorem zqi0 (k : IntKind) (G : Nat -> Int) (n i : Nat) (h : i < n) : (rowL k G n)[i]? = some (.int k (G i)) := by
 unfold rowL;rw [List.getElem?_map, List.getElem?_range h]
 rfl
theorem zqqw (k : IntKind) (G : Nat -> Int) (n : Nat) : rowL k G (n + 1) = rowL k G n ++ [.int k (G n)] := by
 unfold rowL;rw [List.range_succ, List.map_append]
 rfl
theorem zqmg {w w' : World} (hb : Below w.heap.size w w') : w.grownBy w' none := ⟨hb.os, hb.tape, hb.output, hb.size, fun k hk _ => hb.block k hk⟩
theorem zqc2 {w w' : World} {base : Nat} {e : TypeId} {size : Nat} {v : Value} {n : Nat} {xs : List Value} (h : w.ownsRow base e size v n xs) (hb : Below w.heap.size w w') : w'.ownsRow base e size v n xs :=
 h.kept (zqmg hb) (by cases v.ownBlock <;> simp)
theorem zqlf {w W w' : World} {base : Nat} {e : TypeId} {v : Value} {n : Nat} {xs : List Value} (own : W.ownsRow base e 1 v n xs) (hg : W.grownBy w' v.ownBlock) (hG : Below w.heap.size w W) (hwb : w.heap.size <= base) :
  Below w.heap.size w w' /\ ∀ m o, m < base -> zqd W m = some o -> zqd w' m = some o := by
 refine ⟨hG.grown hg hG.size (fun k hk => ?_), fun m o hm hob => ?_⟩
 ·have := (own.lt k hk).1; omega
 ·have hlt := zqa hob
  refine (hg.block m hlt fun e => ?_).trans hob;have := (own.lt m e.symm).1
  omega
theorem zqyq {t e : TypeId} {i : TypeInfo} {z : Value} (k : IntKind) (bytes : Nat) (ht : Tryz.prog.underlying t = some (.slice e)) (hi : Tryz.prog.info? e = some i) (hz : i.zero = some z) (hsize : i.size = 1) (hby : i.bytes = bytes) (hzs : z.cells.size = 1) (hb8 : bytes <= 8)
  (w W : World) (base : Nat) (v : Value) (n : Nat) (G : Nat -> Int) (g2 : Nat) (t2 ty : TypeId) (fr : Nat × Nat) (own : W.ownsRow base e 1 v n (rowL k G n)) (hn : n <= 1099511627776)
  (hg2 : zqd W g2 = some (.cells #[.int k (G n)] t2 fr)) (hG : Below w.heap.size w W) (hwb : w.heap.size <= base) (hbW : base <= W.heap.size) :
  ∃ g cap w', (zqw #[t, t] ty #[v, .slice (some ⟨g2, 0, none⟩) 1 1]).run Tryz.prog W = .ok (.value (.slice (some ⟨g, 0, none⟩) (n + 1) cap)) w' /\ w'.ownsRow base e 1 (.slice (some ⟨g, 0, none⟩) (n + 1) cap) (n + 1) (rowL k G (n + 1)) /\
   Below w.heap.size w w' /\ (∀ m o, m < base -> zqd W m = some o -> zqd w' m = some o) /\ base <= g := by
 have hbn : (n + 1) * bytes <= 140737488355328 := Nat.le_trans (Nat.mul_le_mul_left (n + 1) hb8) (by omega);obtain ⟨g, cap, w', hr, ho, hg, _, _⟩ := run_append_lies (P := Tryz.prog) W t ty base e i z 1 bytes ht hi hz hsize hby hzs (by decide) v n (rowL k G n) own ⟨g2, 0, none⟩ 1 1 [.int k (G n)] rfl
  (fun j u hu => by
   unfold zqd at hg2;have ha : ((⟨g2, 0, none⟩ : Addr).add j) = ⟨g2, j, none⟩ := by unfold Addr.add; split <;> simp_all
   rw [ha, cell_of_row W g2 j _ _ _ hg2]
   simpa using hu) (fun u hu => by
   rw [List.mem_singleton] at hu;subst hu
   rfl) (by decide) (by unfold maxLen; omega) hbn hbW W.heap.size rfl
 rw [<- zqqw] at ho;obtain ⟨h1, h2⟩ := zqlf own hg hG hwb;exact ⟨g, cap, w', by unfold zqw; simp only [Sem.run_bind, hr, Result.andThen_ok, Sem.run_pure], ho, h1, h2, (ho.lt g rfl).1⟩
theorem zqs2 (s : ByteArray) : strCells s = rowL .u8 (byteAt s) s.size := by
 apply List.ext_getElem?
 intro j
 by_cases h : j < s.size
 ·rw [zqi0 _ _ _ _ h]
  unfold strCells;have : s.data.toList[j]? = some s[j] := by
   rw [Array.getElem?_toList];exact Array.getElem?_eq_getElem h
  rw [List.getElem?_map, this, <- zqde s j h]
  rfl
 ·rw [List.getElem?_eq_none (by rw [strCells_length]; omega), List.getElem?_eq_none (by rw [zqpq]; omega)]
theorem zqzb {k : IntKind} {G G' : Nat -> Int} {n : Nat} (h : ∀ i, i < n -> G i = G' i) : rowL k G n = rowL k G' n := by
 unfold rowL;exact List.map_congr_left fun i hi => by rw [h i (by simpa using hi)]
@[go_sem ↓ high] theorem zrci (ty : TypeId) (cs : Array Bool) (args : Array Value) : builtin .append #[144, 9] ty cs args = zqw #[144, 9] ty args := by unfold zqw; rfl
@[go_sem ↓ high] theorem zra8 (ty : TypeId) (cs : Array Bool) (args : Array Value) : builtin .append #[228, 228] ty cs args = zqw #[228, 228] ty args := by unfold zqw; rfl
theorem zqno (x : Int) (W : World) : (Instr.buildSlice 144 1 #[(0, .int .u8 x)]).run Tryz.prog W = .ok (.slice (some ⟨W.heap.size, 0, none⟩) 1 1) (W.alloc (.cells #[.int .u8 x] 5)) := by kernel_rfl
theorem zqih (x : Int) (W : World) : (Instr.buildSlice 228 1 #[(0, .int .u32 x)]).run Tryz.prog W = .ok (.slice (some ⟨W.heap.size, 0, none⟩) 1 1) (W.alloc (.cells #[.int .u32 x] 22)) := by kernel_rfl
def zqke (v : Value) : Sem Next := do pure (.value (<- Instr.buildSlice 144 1 #[(0, v)]))
@[go_sem ↓ high] theorem zqya (ρ : Operand -> Value) (d : Option Tmp) (x : Operand) (t : TypeId) (pos : String) (af : Array Edge) (g : Option (Nat × Bool)) :
  execOp ρ ⟨d, .buildSlice 144 1 #[(0, x)], t, pos, af, g⟩ = zqke (ρ x) := by
 unfold execOp zqke
 simp
@[go_sem high] theorem zrf0 (ρ : Operand -> Value) (d : Option Tmp) (x : Operand) (t : TypeId) (pos : String) (af : Array Edge) (g : Option (Nat × Bool)) :
  execOp ρ ⟨d, .buildSlice 144 1 #[(0, x)], t, pos, af, g⟩ = zqke (ρ x) := zqya ρ d x t pos af g
@[go_sem] theorem zrdi (x : Int) (W : World) : (zqke (.int .u8 x)).run Tryz.prog W = .ok (.value (.slice (some ⟨W.heap.size, 0, none⟩) 1 1)) (W.alloc (.cells #[.int .u8 x] 5)) := by
 unfold zqke
 simp only [Sem.run_bind, zqno, Result.andThen_ok, Sem.run_pure]
def zqki (v : Value) : Sem Next := do pure (.value (<- Instr.buildSlice 228 1 #[(0, v)]))
@[go_sem ↓ high] theorem zqz4 (ρ : Operand -> Value) (d : Option Tmp) (x : Operand) (t : TypeId) (pos : String) (af : Array Edge) (g : Option (Nat × Bool)) :
  execOp ρ ⟨d, .buildSlice 228 1 #[(0, x)], t, pos, af, g⟩ = zqki (ρ x) := by
 unfold execOp zqki
 simp
@[go_sem high] theorem zrfy (ρ : Operand -> Value) (d : Option Tmp) (x : Operand) (t : TypeId) (pos : String) (af : Array Edge) (g : Option (Nat × Bool)) :
  execOp ρ ⟨d, .buildSlice 228 1 #[(0, x)], t, pos, af, g⟩ = zqki (ρ x) := zqz4 ρ d x t pos af g
@[go_sem] theorem zrdb (x : Int) (W : World) : (zqki (.int .u32 x)).run Tryz.prog W = .ok (.value (.slice (some ⟨W.heap.size, 0, none⟩) 1 1)) (W.alloc (.cells #[.int .u32 x] 22)) := by
 unfold zqki
 simp only [Sem.run_bind, zqih, Result.andThen_ok, Sem.run_pure]
attribute [irreducible] zqke zqki
theorem zqgl (w W : World) (base : Nat) (v : Value) (n : Nat) (G : Nat -> Int) (g2 : Nat) (t2 ty : TypeId) (fr : Nat × Nat) (own : W.ownsRow base 5 1 v n (rowL .u8 G n)) (hn : n <= 1099511627776)
  (hg2 : zqd W g2 = some (.cells #[.int .u8 (G n)] t2 fr)) (hG : Below w.heap.size w W) (hwb : w.heap.size <= base) (hbW : base <= W.heap.size) :
  ∃ g cap w', (zqw #[144, 144] ty #[v, .slice (some ⟨g2, 0, none⟩) 1 1]).run Tryz.prog W = .ok (.value (.slice (some ⟨g, 0, none⟩) (n + 1) cap)) w' /\ w'.ownsRow base 5 1 (.slice (some ⟨g, 0, none⟩) (n + 1) cap) (n + 1) (rowL .u8 G (n + 1)) /\
   Below w.heap.size w w' /\ (∀ m o, m < base -> zqd W m = some o -> zqd w' m = some o) /\ base <= g :=
 zqyq (i := (Tryz.prog.info? 5).get zqb) (z := ((Tryz.prog.info? 5).get zqb).zero.get zqb) .u8 1 Tryz.underlying144 zqb zqb zqb zqb zqb (by decide) w W base v n G g2 t2 ty fr own hn hg2 hG hwb hbW
theorem zqun (w : World) (s : ByteArray) (ty : TypeId) (hs : s.size <= 1099511627776) :
  ∃ v w', (zqw #[144, 9] ty #[.slice none 0 0, .string s]).run Tryz.prog w = .ok (.value v) w' /\ w'.ownsRow w.heap.size 5 1 v s.size (rowL .u8 (byteAt s) s.size) /\ Below w.heap.size w w' := by
 obtain ⟨v, w', hr, ho, hg, _⟩ := run_append_own_string (P := Tryz.prog) w w.heap.size 144 9 ty 5 ((Tryz.prog.info? 5).get zqb) Tryz.underlying144 Tryz.underlying9 zqb zqb zqb zqb (.slice none 0 0) 0 [] (World.ownsRow_nil _ _ _ _) s (by unfold maxLen; omega) (by omega) (Nat.le_refl _);rw [List.nil_append, zqs2, Nat.zero_add] at ho;exact ⟨v, w', by unfold zqw; simp only [Sem.run_bind, hr, Result.andThen_ok, Sem.run_pure], ho, (zqlf (World.ownsRow_nil w w.heap.size 5 1) hg (Grew.refl w) (Nat.le_refl _)).1⟩
end Go.Proofs.YtnjghcnhcbobhaaGreatDoor
namespace Go.Proofs.YtnjghcnhcbobhaaGreatDoor
open Go.RowKit
theorem zren (s : ByteArray) : ∀ i, i < s.size -> byteAt s i = byteAt (zqbv s) i := fun i hi => (zqdc s _ i hi).symm
theorem zqp2 (s : ByteArray) (i : Nat) (hi : i < (padB s.size).size) : byteAt (zqbv s) (s.size + i) = byteAt (padB s.size) i := zqdd s _ i hi
theorem zq0v (n : Nat) : byteAt (padB n) 0 = 128 := by
 unfold padB;have h1 : (⟨#[128]⟩ : ByteArray).size = 1 := rfl;rw [zqdc _ _ 0 (by rw [ByteArray.size_append, h1]; omega), zqdc _ _ 0 (by rw [h1]; omega)]
 rfl
theorem zqxx (n j : Nat) (hj : j < (119 - n % 64) % 64) : byteAt (padB n) (1 + j) = 0 := by
 unfold padB;have h1 : (⟨#[128]⟩ : ByteArray).size = 1 := rfl;rw [zqdc _ _ _ (by rw [ByteArray.size_append, h1, zqbu]; omega)];have := zqdd (⟨#[128]⟩ : ByteArray) (zqap ((119 - n % 64) % 64)) j (by rw [zqbu]; exact hj);rw [h1] at this;rw [this, zqrq]
theorem zq6d (n j : Nat) (hj : j < 8) : byteAt (padB n) (1 + (119 - n % 64) % 64 + j) = zqin n j := by
 unfold padB;have h1 : (⟨#[128]⟩ : ByteArray).size = 1 := rfl;have := zqdd ((⟨#[128]⟩ : ByteArray) ++ zqap ((119 - n % 64) % 64)) (strOf 8 (zqin n)) j (by rw [zq1]; exact hj);rw [ByteArray.size_append, h1, zqbu] at this;rw [this, zqda 8 _ j hj (zqxf n j hj)]
theorem zqst (s : ByteArray) : (zqbv s).size = s.size + 1 + (119 - s.size % 64) % 64 + 8 := by
 unfold zqbv;rw [ByteArray.size_append, zqg5]; omega
theorem zq9x (n j : Nat) (hn : n < 1152921504606846976) (hj : j < 8) : ((n : Int) * 8) / 256 ^ (7 - j) % 256 = zqin n j := by
 unfold zqin;have e : (256 : Int) ^ (7 - j) = 2 ^ (56 - 8 * j) := by
  rw [show (256 : Int) = 2 ^ 8 from rfl, <- Int.pow_mul]
  congr 1
  omega
 rw [e, Int.mul_comm]
attribute [local irreducible] strOf shaF zqap padB zqbv zqb5
theorem zqye (s : ByteArray) (w : World) (hs : s.size <= 1000000000) :
  Calls Tryz.prog 134 #[.string s] w fun e w' => ∃ g cap, e = .returned (.slice (some ⟨g, 0, none⟩) (zqbv s).size cap) /\ Below w.heap.size w w' /\ w'.ownsRow w.heap.size 5 1 (.slice (some ⟨g, 0, none⟩) (zqbv s).size cap) (zqbv s).size (rowL .u8 (byteAt (zqbv s)) (zqbv s).size) := by
 have hfs := zqst s;obtain ⟨z, hz⟩ : ∃ z, (119 - s.size % 64) % 64 = z := ⟨_, rfl⟩
 have hz64 : (s.size + 1 + z) % 64 = 56 := by omega
 have hzl : z < 64 := by omega
 have p0 : Hid (byteAt (zqbv s) s.size = 128) := by
  have := zqp2 s 0 (by rw [zqg5]; omega);rw [Nat.add_zero] at this
  show _ = _
  rw [this, zq0v]
 have p1 : Hid (∀ j, j < z -> byteAt (zqbv s) (s.size + 1 + j) = 0) := fun j hj => by
  have := zqp2 s (1 + j) (by rw [zqg5]; omega);rw [<- Nat.add_assoc] at this;rw [this, zqxx s.size j (by omega)]
 have p2 : Hid (∀ j, j < 8 -> byteAt (zqbv s) (s.size + 1 + z + j) = (s.size : Int) * 8 / 256 ^ (7 - j) % 256) := fun j hj => by
  have := zqp2 s (1 + z + j) (by rw [zqg5]; omega);rw [show s.size + (1 + z + j) = s.size + 1 + z + j by omega] at this;rw [this, <- hz, zq6d s.size j hj, zq9x s.size j (by omega) hj]
 have q0 : rowL .u8 (byteAt s) s.size = rowL .u8 (byteAt (zqbv s)) s.size := zqzb (zren s);rw [hz] at hfs;rw [hfs];generalize byteAt (zqbv s) = G at *;clear hfs hz;obtain ⟨v1, w1, hr1, own1, hG1⟩ := zqun w s 144 (by omega);rw [q0] at own1;clear q0;have OWN1 : Hid (w1.ownsRow w.heap.size 5 1 v1 s.size (rowL .u8 G s.size)) := own1;have lw1 := hG1.size;obtain ⟨g2, c2, w2, hr2, own2, hG2, _, hb2⟩ := zqgl w (w1.alloc (.cells #[.int .u8 128] 5)) w.heap.size v1 s.size G w1.heap.size 5 144 (0, 0) (own1.alloc _) (by omega) (by rw [p0.out]; exact zqg _ _ _ rfl) (Grew.alloc hG1 _) (Nat.le_refl _) (by have := (Grew.alloc hG1 (.cells #[.int .u8 128] 5)).size; omega);have OWN2 : Hid (w2.ownsRow w.heap.size 5 1 (.slice (some ⟨g2, 0, none⟩) (s.size + 1) c2) (s.size + 1) (rowL .u8 G (s.size + 1))) := own2;clear own1 own2
 go_enter Tryz.func134, Tryz.ntmps134
 go_wp2_with fail
 go_loopw [3] (fun v wr => ∃ n g c : Nat, s.size + 1 <= n /\ n <= s.size + 1 + z /\ v = .slice (some ⟨g, 0, none⟩) n c /\ Below w.heap.size w wr /\ wr.ownsRow w.heap.size 5 1 (.slice (some ⟨g, 0, none⟩) n c) n (rowL .u8 G n)) (fun v _ => match v with | .slice _ n _ => s.size + 1 + z - n | _ => 0)
 case atStart => exact ⟨s.size + 1, g2, c2, by omega, by omega, rfl, hG2, OWN2.out⟩
 case round =>
  clear hr1 hG1 OWN1 lw1 hr2 hG2 hb2 OWN2;obtain ⟨n, g, c, hn1, hn2, rfl, hG, own⟩ := hrel;have OWN : Hid (wr.ownsRow w.heap.size 5 1 (.slice (some ⟨g, 0, none⟩) n c) n (rowL .u8 G n)) := own;clear own
  by_cases hlt : n < s.size + 1 + z
  ·have hne : ¬ ((n : Int) % 64 = 56) := by omega
   have hne1 : ((n : Int) % 64 != 56) = true := by simp; omega
   have hne2 : ((n : Int) % 64 == 56) = false := by simp; omega
   have hGn : G n = 0 := by
    have := p1.out (n - (s.size + 1)) (by omega);rw [show s.size + 1 + (n - (s.size + 1)) = n by omega] at this;exact this
   obtain ⟨g3, c3, w3, hr3, own3, hG3, _, _⟩ := zqgl w (wr.alloc (.cells #[.int .u8 0] 5)) w.heap.size (.slice (some ⟨g, 0, none⟩) n c) n G wr.heap.size 5 144 (0, 0) (OWN.out.alloc _) (by omega) (by rw [hGn]; exact zqg _ _ _ rfl) (Grew.alloc hG _) (Nat.le_refl _) (by have := (Grew.alloc hG (.cells #[.int .u8 0] 5)).size; omega);have OWN3 : Hid (w3.ownsRow w.heap.size 5 1 (.slice (some ⟨g3, 0, none⟩) (n + 1) c3) (n + 1) (rowL .u8 G (n + 1))) := own3;clear own3 hGn OWN;go_wp2
   go_roundw
   case rel => exact ⟨n + 1, g3, c3, by omega, by omega, rfl, hG3, OWN3.out⟩
   case measure => show s.size + 1 + z - (n + 1) < s.size + 1 + z - n; omega
  ·obtain rfl : n = s.size + 1 + z := by omega
   have hne : ((s.size + 1 + z : Nat) : Int) % 64 = 56 := by omega
   have hne0 : ((s.size : Int) + 1 + (z : Int)) % 64 = 56 := by omega
   clear hlt hn1 hn2;obtain ⟨U, hU0, hUS, hUe, hUb⟩ : ∃ U : Nat -> Int, U 0 = 72057594037927936 /\ Hid (∀ j, U j / 256 = U (j + 1)) /\ Hid (∀ j, j < 8 -> U j = 256 ^ (7 - j)) /\ Hid (∀ j, 0 <= U j /\ U j <= 72057594037927936) := by
    refine ⟨fun j => 72057594037927936 / 256 ^ j, by decide, fun j => ?_, fun j hj => ?_, fun j => ⟨Int.ediv_nonneg (by decide) (Int.pow_nonneg (by decide)), Int.ediv_le_self _ (by decide)⟩⟩
    ·show 72057594037927936 / 256 ^ j / 256 = 72057594037927936 / 256 ^ (j + 1)
     rw [Int.pow_succ, Int.ediv_ediv_of_nonneg (Int.pow_nonneg (by decide))]
    ·rcases (by omega : j = 0 \/ j = 1 \/ j = 2 \/ j = 3 \/ j = 4 \/ j = 5 \/ j = 6 \/ j = 7) with rfl | rfl | rfl | rfl | rfl | rfl | rfl | rfl <;> decide
   have HU0 : Hid (U 0 = 72057594037927936) := hU0;clear hU0;have p3 : Hid (∀ j, j < 8 -> G (s.size + 1 + z + j) = (s.size : Int) * 8 / U j % 256) := fun j hj => by rw [p2.out j hj, hUe.out j hj]
   clear p0 p1 p2;go_wp2_with fail
   go_loopw [3, 5, 6] (fun v u i wr2 => ∃ j g c : Nat, j <= 8 /\ i = .int .i64 j /\ u = .int .u64 (U j) /\ v = .slice (some ⟨g, 0, none⟩) (s.size + 1 + z + j) c /\ Below w.heap.size w wr2 /\ wr2.ownsRow w.heap.size 5 1 (.slice (some ⟨g, 0, none⟩) (s.size + 1 + z + j) c) (s.size + 1 + z + j) (rowL .u8 G (s.size + 1 + z + j))) (fun _ _ i _ => 8 - (intOf i).toNat)
   case atStart => exact ⟨0, g, c, by omega, rfl, by rw [HU0.out], rfl, hG, OWN.out⟩
   case round =>
    clear OWN hG;obtain ⟨j, g, c, hj, rfl, rfl, rfl, hG, own⟩ := hrel;have OWN : Hid (wr.ownsRow w.heap.size 5 1 (.slice (some ⟨g, 0, none⟩) (s.size + 1 + z + j) c) (s.size + 1 + z + j) (rowL .u8 G (s.size + 1 + z + j))) := own;clear own
    by_cases hlt : j < 8
    ·have hub := hUb.out j
     have hup : U j ≠ 0 := by
      rw [hUe.out j hlt];exact Int.ne_of_gt (Int.pow_pos (by decide))
     have hup0 : 0 < U j := by omega
     have hs1 : U j / 256 = U (j + 1) := hUS.out j;obtain ⟨x, hx⟩ : ∃ x, (s.size : Int) * 8 / U j = x := ⟨_, rfl⟩
     have hx0 : 0 <= x := by rw [<- hx]; exact Int.ediv_nonneg (by omega) (by omega)
     have hx1 : x <= 8000000000 := by rw [<- hx]; exact Int.le_trans (Int.ediv_le_self _ (by omega)) (by omega)
     have hGn := p3.out j hlt;rw [hx] at hGn;obtain ⟨g3, c3, w3, hr3, own3, hG3, _, _⟩ := zqgl w (wr.alloc (.cells #[.int .u8 (x % 256)] 5)) w.heap.size (.slice (some ⟨g, 0, none⟩) (s.size + 1 + z + j) c) (s.size + 1 + z + j) G wr.heap.size 5 144 (0, 0) (OWN.out.alloc _) (by omega) (by rw [hGn]; exact zqg _ _ _ rfl) (Grew.alloc hG _) (Nat.le_refl _) (by have := (Grew.alloc hG (.cells #[.int .u8 (x % 256)] 5)).size; omega);have OWN3 : Hid (w3.ownsRow w.heap.size 5 1 (.slice (some ⟨g3, 0, none⟩) (s.size + 1 + z + j + 1) c3) (s.size + 1 + z + j + 1) (rowL .u8 G (s.size + 1 + z + j + 1))) := own3;clear own3 hGn OWN;go_wp2
     go_roundw
     case rel => exact ⟨j + 1, g3, c3, by omega, by go_num, by rw [hs1], rfl, hG3, OWN3.out⟩
     case measure => simp [intOf]; omega
    ·obtain rfl : j = 8 := by omega
     clear hlt;go_wp2;go_ret;exact ⟨g, c, rfl, hG, OWN.out⟩
end Go.Proofs.YtnjghcnhcbobhaaGreatDoor
namespace Go.Proofs.YtnjghcnhcbobhaaGreatDoor
open Go.RowKit
set_option maxHeartbeats 1000000 in
theorem zrpy (w : World) : Calls Tryz.prog 150 #[] w fun e w' => e = .returned (.slice (some ⟨w.heap.size, 0, none⟩) 64 64) /\ zqd w' w.heap.size = some (.cells (ints .u32 64 zqex) 22) /\ Below w.heap.size w w' := by
 go_enter Tryz.func150, Tryz.ntmps150
 go_wp2;go_ret;refine ⟨rfl, ?_, Grew.alloc (Grew.refl w) _⟩;have e := zqg w (.cells (ints .u32 64 zqex) 22) w.heap.size rfl;refine Eq.trans ?_ e
 congr 3
 kernel_rfl
end Go.Proofs.YtnjghcnhcbobhaaGreatDoor
namespace Go.Proofs.YtnjghcnhcbobhaaGreatDoor
open Go.RowKit Go.Lib
section
variable {ops : Array Oper} {o : Oper} {a : Act} {K : Act -> World -> Prop} {Q : Exit -> Act -> World -> Prop} {E : Prop}
theorem zq79 {t e : TypeId} {i : TypeInfo} {z : Value} (k : IntKind) (bytes : Nat) (ht : Tryz.prog.underlying t = some (.slice e)) (hi : Tryz.prog.info? e = some i) (hz : i.zero = some z) (hsize : i.size = 1) (hby : i.bytes = bytes) (hzs : z.cells.size = 1) (hb8 : bytes <= 8)
  (hgd : o.guard = none) (s x : Operand) (ho : o.op = .call { callee := .builtin .append, args := #[s, x], argTypes := #[t, t] })
  (w W : World) (base : Nat) (v : Value) (n : Nat) (G : Nat -> Int) (g2 : Nat) (t2 : TypeId) (fr : Nat × Nat) (hs : a.eval s = v) (hx : a.eval x = .slice (some ⟨g2, 0, none⟩) 1 1) (own : W.ownsRow base e 1 v n (rowL k G n)) (hn : n <= 1099511627776)
  (hg2 : zqd W g2 = some (.cells #[.int k (G n)] t2 fr)) (hG : Below w.heap.size w W) (hwb : w.heap.size <= base) (hbW : base <= W.heap.size)
  (h : ∀ g cap w', w'.ownsRow base e 1 (.slice (some ⟨g, 0, none⟩) (n + 1) cap) (n + 1) (rowL k G (n + 1)) -> Below w.heap.size w w' -> (∀ m ob, m < base -> zqd W m = some ob -> zqd w' m = some ob) -> base <= g -> K (a.put o.dst (.slice (some ⟨g, 0, none⟩) (n + 1) cap)) w') :
  if Region.wanted o (yielded ops a.tmps) = true then Oper.wp Tryz.prog o a W K Q else E := by
 have hbn : (n + 1) * bytes <= 140737488355328 := Nat.le_trans (Nat.mul_le_mul_left (n + 1) hb8) (by omega);refine step_append_lies (P := Tryz.prog) (w := W) hgd s x t ho base e i z 1 bytes ht hi hz hsize hby hzs (by decide) v n (rowL k G n) hs own ⟨g2, 0, none⟩ 1 1 [.int k (G n)] hx rfl
  (fun j u hu => by
   unfold zqd at hg2;have ha : ((⟨g2, 0, none⟩ : Addr).add j) = ⟨g2, j, none⟩ := by unfold Addr.add; split <;> simp_all
   rw [ha, cell_of_row W g2 j _ _ _ hg2]
   simpa using hu) (fun u hu => by
   rw [List.mem_singleton] at hu;subst hu
   rfl) (by decide) (by unfold maxLen; omega) hbn hbW W.heap.size rfl (fun g cap w' ho' hg _ _ => ?_)
 rw [<- zqqw] at ho';obtain ⟨h1, h2⟩ := zqlf own hg hG hwb;exact h g cap w' ho' h1 h2 (ho'.lt g rfl).1
end
section
variable {ops : Array Oper} {o : Oper} {a : Act} {K : Act -> World -> Prop} {Q : Exit -> Act -> World -> Prop} {E : Prop}
theorem zqlr (hgd : o.guard = none) (s x : Operand) (ho : o.op = .call { callee := .builtin .append, args := #[s, x], argTypes := #[228, 228] })
  (w W : World) (base : Nat) (v : Value) (n : Nat) (G : Nat -> Int) (g2 : Nat) (t2 : TypeId) (fr : Nat × Nat) (hs : a.eval s = v) (hx : a.eval x = .slice (some ⟨g2, 0, none⟩) 1 1) (own : W.ownsRow base 22 1 v n (rowL .u32 G n)) (hn : n <= 1099511627776)
  (hg2 : zqd W g2 = some (.cells #[.int .u32 (G n)] t2 fr)) (hG : Below w.heap.size w W) (hwb : w.heap.size <= base) (hbW : base <= W.heap.size)
  (h : ∀ g cap w', w'.ownsRow base 22 1 (.slice (some ⟨g, 0, none⟩) (n + 1) cap) (n + 1) (rowL .u32 G (n + 1)) -> Below w.heap.size w w' -> (∀ m ob, m < base -> zqd W m = some ob -> zqd w' m = some ob) -> base <= g -> K (a.put o.dst (.slice (some ⟨g, 0, none⟩) (n + 1) cap)) w') :
  if Region.wanted o (yielded ops a.tmps) = true then Oper.wp Tryz.prog o a W K Q else E :=
 zq79 (i := (Tryz.prog.info? 22).get zqb) (z := ((Tryz.prog.info? 22).get zqb).zero.get zqb) .u32 4 Tryz.underlying228 zqb zqb zqb zqb zqb (by decide) hgd s x ho w W base v n G g2 t2 fr hs hx own hn hg2 hG hwb hbW h
end
def WordsAt (w : World) (g o n : Nat) (G : Nat -> Int) : Prop := g < w.heap.size /\ ∀ i, i < n -> cellOf (zqd w g) (o + i) = some (.int .u32 (G i))
theorem WordsAt.later {w w' : World} {g o n : Nat} {G : Nat -> Int} (h : WordsAt w g o n G) (hb : Below w.heap.size w w') : WordsAt w' g o n G := by
 refine ⟨Nat.lt_of_lt_of_le h.1 hb.size, fun i hi => ?_⟩;rw [show zqd w' g = zqd w g from hb.block g h.1];exact h.2 i hi
theorem zqfm {w : World} {base g n c : Nat} {G : Nat -> Int} {t : TypeId} (h : w.ownsRow base t 1 (.slice (some ⟨g, 0, none⟩) n c) n (rowL .u32 G n)) : WordsAt w g 0 n G := by
 rcases h.2 with ⟨h0, _⟩ | ⟨g', cap, cur, h0, hb, hg, hnc, hcm, hcs, htake⟩
 ·cases h0
 ·cases h0
  have hlt : g < w.heap.size := zqa (show zqd w g = _ from hg);refine ⟨hlt, fun i hi => ?_⟩;rw [show zqd w g = some (.cells cur t (0, 0)) from hg, zqbs, Nat.zero_add];have h1 := zqi0 .u32 G n i hi;rw [<- htake, List.getElem?_take, if_pos (by omega)] at h1
  simpa using h1
theorem zqn1 {w : World} {g : Nat} {x0 x1 x2 x3 x4 x5 x6 x7 : Int} {t : TypeId} {fr : Nat × Nat} {G : Nat -> Int} (h : zqd w g = some (.cells #[.int .u32 x0, .int .u32 x1, .int .u32 x2, .int .u32 x3, .int .u32 x4, .int .u32 x5, .int .u32 x6, .int .u32 x7] t fr))
  (h0 : x0 = G 0) (h1 : x1 = G 1) (h2 : x2 = G 2) (h3 : x3 = G 3) (h4 : x4 = G 4) (h5 : x5 = G 5) (h6 : x6 = G 6) (h7 : x7 = G 7) : WordsAt w g 0 8 G := by
 subst h0 h1 h2 h3 h4 h5 h6 h7;refine ⟨zqa h, fun i hi => ?_⟩;rw [h, zqbs, Nat.zero_add]
 rcases (by omega : i = 0 \/ i = 1 \/ i = 2 \/ i = 3 \/ i = 4 \/ i = 5 \/ i = 6 \/ i = 7) with rfl | rfl | rfl | rfl | rfl | rfl | rfl | rfl <;> rfl
theorem zqfc (B : Nat -> Int) : ∀ t i, i < t -> sch B t i = zqfi B (sch B i) i
 | 0, i, h => by omega
 | t + 1, i, h => by
  show upd (sch B t) t (zqfi B (sch B t) t) i = _
  by_cases e : i = t
  ·subst e; exact upd_same _ _ _
  ·rw [zq04 _ _ _ _ e]; exact zqfc B t i (by omega)
theorem zrfu (B : Nat -> Int) (i : Nat) (h : i < 16) : sch B 64 i = wd B i := by
 rw [zqfc B 64 i (by omega)];unfold zqfi;rw [if_pos h]
theorem zq6p (B : Nat -> Int) (t : Nat) (h0 : 16 <= t) (h1 : t < 64) : sch B 64 t = (sm1 (sch B 64 (t - 2)) + sch B 64 (t - 7) + sm0 (sch B 64 (t - 15)) + sch B 64 (t - 16)) % 4294967296 := by
 rw [zqfc B 64 t h1];unfold zqfi;rw [if_neg (by omega), zqfc B t (t - 2) (by omega), zqfc B t (t - 7) (by omega), zqfc B t (t - 15) (by omega), zqfc B t (t - 16) (by omega), zqfc B 64 (t - 2) (by omega), zqfc B 64 (t - 7) (by omega), zqfc B 64 (t - 15) (by omega), zqfc B 64 (t - 16) (by omega)]
theorem zrp2 (x : Int) (w : World) (hx : W32 x) : Calls Tryz.prog 136 #[.int .u32 x, .int .i64 3] w (Rt w (.int .u32 (x / 8))) := move_any x 3 w hx (by decide) (by decide)
theorem zri5 (x : Int) (w : World) (hx : W32 x) : Calls Tryz.prog 136 #[.int .u32 x, .int .i64 10] w (Rt w (.int .u32 (x / 1024))) := move_any x 10 w hx (by decide) (by decide)
theorem zri1 (x : Int) : bits .xor .u32 (bits .xor .u32 (rot 7 x) (rot 18 x)) (x / 8) = sm0 x := by unfold sm0; rfl
theorem zrky (x : Int) : bits .xor .u32 (bits .xor .u32 (rot 17 x) (rot 19 x)) (x / 1024) = sm1 x := by unfold sm1; rfl
theorem zrk6 (x : Int) : bits .xor .u32 (bits .xor .u32 (rot 2 x) (rot 13 x)) (rot 22 x) = gr0 x := by unfold gr0; rfl
theorem zrj0 (x : Int) : bits .xor .u32 (bits .xor .u32 (rot 6 x) (rot 11 x)) (rot 25 x) = gr1 x := by unfold gr1; rfl
theorem zrjr (e f g : Int) : bits .xor .u32 (bits .and .u32 e f) (bits .and .u32 (4294967295 - e) g) = chs e f g := by unfold chs; rfl
theorem zqp7 (w : World) (ty : TypeId) (g o c : Nat) (G : Nat -> Int) (h : WordsAt w g o 8 G) :
  ∃ g' cap w', (zqw #[228, 228] ty #[.slice none 0 0, .slice (some ⟨g, o, none⟩) 8 c]).run Tryz.prog w = .ok (.value (.slice (some ⟨g', 0, none⟩) 8 cap)) w' /\ WordsAt w' g' 0 8 G /\ Below w.heap.size w w' := by
 obtain ⟨g', cap, w', hr, ho, hg, _, _⟩ := run_append_lies (P := Tryz.prog) w 228 ty w.heap.size 22 ((Tryz.prog.info? 22).get zqb) (((Tryz.prog.info? 22).get zqb).zero.get zqb) 1 4 Tryz.underlying228 zqb zqb zqb zqb zqb (by decide) (.slice none 0 0) 0 [] (World.ownsRow_nil _ _ _ _) ⟨g, o, none⟩ 8 c (rowL .u32 G 8) (zqpq _ _ _)
  (fun j u hu => by
   have hj : j < 8 := by
    rcases Nat.lt_or_ge j 8 with h' | h'
    ·exact h'
    ·rw [List.getElem?_eq_none (by rw [zqpq]; omega)] at hu; cases hu
   rw [zqi0 _ _ _ _ hj] at hu;have ha : ((⟨g, o, none⟩ : Addr).add j) = ⟨g, o + j, none⟩ := by unfold Addr.add; split <;> simp_all
   rw [ha, zqgg, h.2 j hj];exact hu) (fun u hu => by
   unfold rowL at hu;obtain ⟨i, _, rfl⟩ := List.mem_map.1 hu
   rfl) (by decide) (by unfold maxLen; omega) (by decide) (Nat.le_refl _) w.heap.size rfl
 rw [List.nil_append, Nat.zero_add] at ho;exact ⟨g', cap, w', by unfold zqw; simp only [Sem.run_bind, hr, Result.andThen_ok, Sem.run_pure], zqfm ho, (zqlf (World.ownsRow_nil w w.heap.size 22 1) hg (Grew.refl w) (Nat.le_refl _)).1⟩
end Go.Proofs.YtnjghcnhcbobhaaGreatDoor
