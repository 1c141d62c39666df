/- R9 -/
import Derived.Test.YtnjghcnhcbobhaaGreatDoorOw
import Derived.Test.YtnjghcnhcbobhaaGreatDoorSw
import Derived.Test.YtnjghcnhcbobhaaGreatDoorMa
import Derived.Test.YtnjghcnhcbobhaaGreatDoorShelf
set_option linter.unusedVariables false
set_option linter.unusedSimpArgs false
set_option maxRecDepth 100000
set_option maxHeartbeats 4000000
namespace Go.Proofs.YtnjghcnhcbobhaaGreatDoor
open Go.RowKit
attribute [local irreducible] strOf shaF zqcm padB zqc3 zqby
theorem cell_same {w w' : World} {g i : Nat} {v : Value} (hb : Below w.heap.size w w') (hg : g < w.heap.size) (h : cellOf (zqd w g) i = some v) : cellOf (zqd w' g) i = some v := by
 rw [show zqd w' g = zqd w g from hb.block g hg]; exact h
def BytesAt (w : World) (g o n : Nat) (G : Nat -> Int) : Prop := g < w.heap.size /\ ∀ i, i < n -> cellOf (zqd w g) (o + i) = some (.int .u8 (G i))
theorem BytesAt.later {w w' : World} {g o n : Nat} {G : Nat -> Int} (h : BytesAt w g o n G) (hb : Below w.heap.size w w') : BytesAt w' g o n G :=
 ⟨Nat.lt_of_lt_of_le h.1 hb.size, fun i hi => cell_same hb h.1 (h.2 i hi)⟩
end Go.Proofs.YtnjghcnhcbobhaaGreatDoor
namespace Go.Proofs.YtnjghcnhcbobhaaGreatDoor
open Go.RowKit
attribute [local irreducible] strOf shaF zqcm padB zqc3 zqby
def WordsSame (f g : Nat -> Int) : Prop := ∀ i, i < 8 -> f i = g i
theorem WordsAt.same {w : World} {g o : Nat} {G G' : Nat -> Int} (h : WordsAt w g o 8 G) (e : WordsSame G' G) : WordsAt w g o 8 G' := ⟨h.1, fun i hi => by rw [e i hi]; exact h.2 i hi⟩
end Go.Proofs.YtnjghcnhcbobhaaGreatDoor
namespace Go.Proofs.YtnjghcnhcbobhaaGreatDoor
open Go.RowKit
attribute [local irreducible] strOf shaF zqcm padB zqc3 zqby
@[go_sem high] theorem slice_row32 (w : World) (g : Nat) : (Instr.sliceAt 43 (.pointer (some ⟨g, 0, none⟩)) none none none).run Tryz.prog w = .ok (.slice (some ⟨g, 0, none⟩) 32 32) w := by kernel_rfl
end Go.Proofs.YtnjghcnhcbobhaaGreatDoor
namespace Go.Proofs.YtnjghcnhcbobhaaGreatDoor
open Go.RowKit
def zqob (a b c : ByteArray) : Nat -> ByteArray := fun j => if j = 0 then a else if j = 1 then b else c
theorem zqrk (a b c : ByteArray) : catS (zqob a b c) 3 = a ++ b ++ c := by
 show ByteArray.empty ++ a ++ b ++ c = _
 rw [ByteArray.empty_append]
theorem zqua (a b c : ByteArray) (W : World) : (Instr.buildSlice 155 3 #[(0, .string a), (1, .string b), (2, .string c)]).run Tryz.prog W = .ok (.slice (some ⟨W.heap.size, 0, none⟩) 3 3) (W.alloc (.cells #[.string a, .string b, .string c] 9)) := by kernel_rfl
def zqj1 (u v x : Value) : Sem Next := do pure (.value (<- Instr.buildSlice 155 3 #[(0, u), (1, v), (2, x)]))
@[go_sem ↓ high] theorem zqw1 (ρ : Operand -> Value) (d : Option Tmp) (x y z : Operand) (t : TypeId) (pos : String) (af : Array Edge) (g : Option (Nat × Bool)) :
  execOp ρ ⟨d, .buildSlice 155 3 #[(0, x), (1, y), (2, z)], t, pos, af, g⟩ = zqj1 (ρ x) (ρ y) (ρ z) := by
 unfold execOp zqj1
 simp
@[go_sem high] theorem zrbq (ρ : Operand -> Value) (d : Option Tmp) (x y z : Operand) (t : TypeId) (pos : String) (af : Array Edge) (g : Option (Nat × Bool)) :
  execOp ρ ⟨d, .buildSlice 155 3 #[(0, x), (1, y), (2, z)], t, pos, af, g⟩ = zqj1 (ρ x) (ρ y) (ρ z) := zqw1 ρ d x y z t pos af g
@[go_sem] theorem zraj (a b c : ByteArray) (W : World) : (zqj1 (.string a) (.string b) (.string c)).run Tryz.prog W = .ok (.value (.slice (some ⟨W.heap.size, 0, none⟩) 3 3)) (W.alloc (.cells #[.string a, .string b, .string c] 9)) := by
 unfold zqj1
 simp only [Sem.run_bind, zqua, Result.andThen_ok, Sem.run_pure]
attribute [irreducible] zqj1
theorem zqww {W : World} {g : Nat} {a b c : ByteArray} {t : TypeId} {fr : Nat × Nat} (h : zqd W g = some (.cells #[.string a, .string b, .string c] t fr)) : StrsAt W (some ⟨g, 0, none⟩) 3 (zqob a b c) := by
 refine .inr ⟨_, rfl, fun w' hb j hj => ?_⟩;have h' := zqc hb h;unfold zqd at h';have e : (⟨g, 0, none⟩ : Addr).add j = ⟨g, j, none⟩ := by unfold Addr.add; split <;> simp_all
 rw [e, cell_of_row w' g _ _ _ _ h']
 rcases (by omega : j = 0 \/ j = 1 \/ j = 2) with rfl | rfl | rfl <;> rfl
theorem zq2p (key a b c : ByteArray) (g : Nat) (W : World) (hk : key.size < 1152921504606846976) (hs : a.size + b.size + c.size < 1152921504606840000) (h : StrsAt W (some ⟨g, 0, none⟩) 3 (zqob a b c)) (hT : Tabs W) :
  Calls Tryz.prog 82 #[.string key, .slice (some ⟨g, 0, none⟩) 3 3] W (Rt W (.agg (ints .u8 32 (macF key (a ++ b ++ c))))) := by
 have := zqop key (some ⟨g, 0, none⟩) 3 3 (zqob a b c) W hk (by rw [zqrk, ByteArray.size_append, ByteArray.size_append]; exact hs) (by decide) h hT;rw [zqrk] at this;exact this
end Go.Proofs.YtnjghcnhcbobhaaGreatDoor
namespace Go.Proofs.YtnjghcnhcbobhaaGreatDoor
open Go.RowKit
attribute [local irreducible] strOf shaF zqcm padB zqc3 zqby macF
theorem zqbh {s t : ByteArray} (h : s.size = t.size) (h2 : ∀ i, i < s.size -> byteAt s i = byteAt t i) : s = t := by
 apply ByteArray.ext
 apply Array.ext h
 intro i i1 i2;have e := h2 i i1;rw [<- zqdy s i i1, <- zqdy t i i2] at e;have e2 : (s[i]).toNat = (t[i]).toNat := by exact_mod_cast e
 exact UInt8.toNat_inj.1 e2
def zql1 (i : Nat) : ByteArray := strOf 1 fun _ => ((i % 256 : Nat) : Int)
theorem zqxo (i : Nat) : (zql1 i).size = 1 := zqaf _ _
def tB (K info : ByteArray) : Nat -> ByteArray
 | 0 => ByteArray.empty
 | i + 1 => strOf 32 (macF K (tB K info i ++ info ++ zql1 (i + 1)))
theorem zqlx (K info : ByteArray) (i : Nat) : (tB K info (i + 1)).size = 32 := zqaf _ _
theorem zrlm (K info : ByteArray) (i : Nat) : (tB K info i).size <= 32 := by
 cases i with
 | zero => exact Nat.zero_le _
 | succ i => rw [zqlx]; omega
def zqfl (K info : ByteArray) : Nat -> Int := fun i => byteAt (tB K info (i / 32 + 1)) (i % 32)
theorem zqj4 (K info : ByteArray) (i : Nat) : 0 <= zqfl K info i /\ zqfl K info i <= 255 := zqly _ _
theorem zqqn (K info : ByteArray) (m : Nat) : strOf (32 * m) (zqfl K info) ++ tB K info (m + 1) = strOf (32 * (m + 1)) (zqfl K info) := by
 have hs : (strOf (32 * m) (zqfl K info)).size = 32 * m := zqaf _ _;refine zqbh (by rw [ByteArray.size_append, zqaf, zqaf, zqlx]; omega) fun i hi => ?_
 rw [ByteArray.size_append, zqaf, zqlx] at hi;rw [zqc5 _ _ _ (by omega) (zqj4 _ _ _)]
 by_cases h : i < 32 * m
 ·rw [zqc4 _ _ _ (by rw [zqaf]; exact h), zqc5 _ _ _ h (zqj4 _ _ _)]
 ·obtain ⟨k, rfl⟩ : ∃ k, i = 32 * m + k := ⟨i - 32 * m, by omega⟩
  have := zqda (strOf (32 * m) (zqfl K info)) (tB K info (m + 1)) k (by rw [zqlx]; omega);rw [hs] at this;rw [this];unfold zqfl;rw [show (32 * m + k) / 32 = m by omega, show (32 * m + k) % 32 = k by omega]
theorem zqjx (f : Nat -> Int) : strOf 0 f = ByteArray.empty := zqbh (by rw [zqaf]; rfl) fun i hi => by rw [zqaf] at hi; omega
theorem zqas (s : ByteArray) (a b i : Nat) (h : a + i < b) (hb : b <= s.size) : byteAt (s.extract a b) i = byteAt s (a + i) := by
 have h1 : i < (s.extract a b).size := by rw [ByteArray.size_extract]; omega
 rw [<- zqdy _ _ h1, <- zqdy _ _ (show a + i < s.size by omega), ByteArray.getElem_extract]
theorem zqoi (N a n : Nat) (f : Nat -> Int) (hf : ∀ i, 0 <= f i /\ f i <= 255) (h : a + n <= N) : (strOf N f).extract a (a + n) = strOf n (fun i => f (a + i)) := by
 have hs : (strOf N f).size = N := zqaf _ _;refine zqbh (by rw [ByteArray.size_extract, zqaf, zqaf]; omega) fun i hi => ?_
 rw [ByteArray.size_extract, zqaf] at hi;rw [zqas _ _ _ _ (by omega) (by omega), zqc5 _ _ _ (by omega) (hf _), zqc5 n (fun i => f (a + i)) _ (by omega) (hf _)]
theorem zqs3 (N n : Nat) (f : Nat -> Int) (hf : ∀ i, 0 <= f i /\ f i <= 255) (h : n <= N) : (strOf N f).extract 0 n = strOf n f := by
 have := zqoi N 0 n f hf (by omega)
 simpa using this
def oneF (K info : ByteArray) : Nat -> Int := macF K (info ++ zql1 1)
theorem zrht (K info : ByteArray) : tB K info 1 = strOf 32 (oneF K info) := by
 show strOf 32 (macF K (ByteArray.empty ++ info ++ zql1 1)) = _
 rw [ByteArray.empty_append]; rfl
theorem zqqk (K info : ByteArray) : Bytes 32 (oneF K info) := zqqb _ _
theorem zq6v (K info : ByteArray) : strOf 32 (zqfl K info) = strOf 32 (oneF K info) := by
 have := zqqn K info 0;rw [zqjx, ByteArray.empty_append, zrht] at this;exact this.symm
def zqcf (name secret info : ByteArray) : Nat -> Int := oneF (strOf 32 (macF name secret)) info
theorem zqsq (name secret info : ByteArray) : Bytes 32 (zqcf name secret info) := zqqk _ _
end Go.Proofs.YtnjghcnhcbobhaaGreatDoor
namespace Go.Proofs.YtnjghcnhcbobhaaGreatDoor
open Go.RowKit
attribute [local irreducible] strOf shaF zqcm padB zqc3 zqby
attribute [local irreducible] macF
theorem zqqx (c : Int) : ints .u8 1 (fun _ => c) = #[.int .u8 c] := by unfold ints; rfl
theorem zraa {W : World} {g i : Nat} {x : Int} {t : TypeId} (h : Full g #[.int .u8 x] t W) (e : x = ((i % 256 : Nat) : Int)) (m : More) : (convert 144 9 (.slice (some ⟨g, 0, none⟩) 1 1)).run Tryz.prog (more W m) = .ok (.string (zql1 i)) (more W m) := by
 subst e;exact zqfk (P := Tryz.prog) Tryz.underlying144 Tryz.underlying5 Tryz.underlying9 g 1 1 1 (fun _ => ((i % 256 : Nat) : Int)) (more W m) (te := t) (fr := (0, 0)) (zqp m (by rw [zqqx]; exact h)) (by decide)
end Go.Proofs.YtnjghcnhcbobhaaGreatDoor
namespace Go.Proofs.YtnjghcnhcbobhaaGreatDoor
open Go.RowKit
attribute [local irreducible] strOf shaF zqcm padB zqc3 zqby
attribute [local irreducible] macF
def zqov : Prop := ∀ (k : Nat -> Int) (info : ByteArray) (n : Int) (W : World), Bytes 32 k -> info.size <= 100000 -> Tabs W -> Calls Tryz.prog 169 #[.agg (ints .u8 32 k), .string info, .int .i64 n] W (Rt W (.tuple #[.string (if 0 <= n /\ n <= 8160 then strOf n.toNat (zqfl (strOf 32 k) info) else ByteArray.empty), .bool (decide (0 <= n /\ n <= 8160))]))
theorem zqme (hE : zqov) (k : Nat -> Int) (info : ByteArray) (N : Nat) (W : World) (hk : Bytes 32 k) (hi : info.size <= 100000) (hN : N <= 8160) (hT : Tabs W) : Calls Tryz.prog 169 #[.agg (ints .u8 32 k), .string info, .int .i64 (N : Int)] W (Rt W (.tuple #[.string (strOf N (zqfl (strOf 32 k) info)), .bool true])) := by
 have h := hE k info N W hk hi hT;have h0 : 0 <= (N : Int) /\ (N : Int) <= 8160 := ⟨by omega, by omega⟩
 rw [if_pos h0, decide_eq_true h0, show ((N : Int)).toNat = N by omega] at h;exact h
theorem zqv8 (w : World) (hT : Tabs w) :
  Calls Tryz.prog 242 #[] w (Rt w (.bool true)) := by
 have hG := Grew.refl w
 go_enter Tryz.func242, Tryz.ntmps242
 go_wp2_with fail
 (refine (zqyb _ hT).mono ?_; rintro e w1 ⟨rfl, hb⟩; replace hG : Below w.heap.size w w1 := Grew.trans (by exact zqf) hb; clear hb)
 go_wp2;go_ret;exact ⟨rfl, by exact zqf⟩
theorem zqxd (hE : zqov) (w : World) (hT : Tabs w) :
  Calls Tryz.prog 241 #[] w (Rt w (.bool true)) := by
 have hTT : Hid (Tabs w) := hT;clear hT;have c0 : ∀ W : World, Below w.heap.size w W -> Calls Tryz.prog 169 #[.agg (ints .u8 32 zqe), .string ByteArray.empty, .int .i64 0] W (Rt W (.tuple #[.string ByteArray.empty, .bool true])) := fun W hW => by
  have := zqme hE zqe ByteArray.empty 0 W (fun _ _ => ⟨Int.le_refl 0, by show (0 : Int) <= 255; decide⟩) (by decide) (by decide) (hTT.out.later hW);rw [zqjx] at this;exact this
 have c1 : ∀ W : World, Below w.heap.size w W -> Calls Tryz.prog 169 #[.agg (ints .u8 32 zqe), .string ByteArray.empty, .int .i64 1] W (Rt W (.tuple #[.string (strOf 1 (zqfl (strOf 32 zqe) ByteArray.empty)), .bool true])) := fun W hW => zqme hE zqe ByteArray.empty 1 W (fun _ _ => ⟨Int.le_refl 0, by show (0 : Int) <= 255; decide⟩) (by decide) (by decide) (hTT.out.later hW);have hz : (strOf 1 (zqfl (strOf 32 zqe) ByteArray.empty)).size = 1 := zqaf _ _;generalize strOf 1 (zqfl (strOf 32 zqe) ByteArray.empty) = S1 at *;clear hE;have hG := Grew.refl w
 go_enter Tryz.func241, Tryz.ntmps241
 go_wp2_with fail
 (refine (c0 _ hG).mono ?_; rintro e w1 ⟨rfl, hb⟩; replace hG : Below w.heap.size w w1 := Grew.trans (by exact zqf) hb; clear hb)
 go_wp2_with fail
 (refine (c1 _ hG).mono ?_; rintro e w2 ⟨rfl, hb⟩; replace hG : Below w.heap.size w w2 := Grew.trans (by exact zqf) hb; clear hb)
 go_wp2_with fail
 (refine (zqv8 _ (hTT.out.later hG)).mono ?_; rintro e w3 ⟨rfl, hb⟩; replace hG : Below w.heap.size w w3 := Grew.trans (by exact zqf) hb; clear hb)
 go_wp2;go_ret;exact ⟨rfl, by exact zqf⟩
theorem zqxp (hE : zqov) (w : World) (hT : Tabs w) :
  Calls Tryz.prog 239 #[] w (Rt w (.bool true)) := by
 have hG := Grew.refl w
 go_enter Tryz.func239, Tryz.ntmps239
 go_wp2_with fail
 (refine (zqxd hE _ hT).mono ?_; rintro e w1 ⟨rfl, hb⟩; replace hG : Below w.heap.size w w1 := Grew.trans (by exact zqf) hb; clear hb)
 go_wp2;go_ret;exact ⟨rfl, by exact zqf⟩
end Go.Proofs.YtnjghcnhcbobhaaGreatDoor
namespace Go.Proofs.YtnjghcnhcbobhaaGreatDoor
open Go.RowKit
attribute [local irreducible] strOf shaF zqcm padB zqc3 zqby
attribute [local irreducible] macF
end Go.Proofs.YtnjghcnhcbobhaaGreatDoor
