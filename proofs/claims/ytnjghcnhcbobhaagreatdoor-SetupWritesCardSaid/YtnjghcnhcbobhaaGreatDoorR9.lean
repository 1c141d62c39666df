/- R9 -/
import Derived.Test.YtnjghcnhcbobhaaGreatDoorOw
import Derived.Test.YtnjghcnhcbobhaaGreatDoorSw
import Derived.Test.YtnjghcnhcbobhaaGreatDoorMa
import Derived.Test.YtnjghcnhcbobhaaGreatDoorShelf
set_option linter.unusedVariables false
set_option linter.unusedSimpArgs false
set_option maxRecDepth 100000
set_option maxHeartbeats 4000000
namespace Go.Proofs.YtnjghcnhcbobhaaGreatDoor
open Go.RowKit
attribute [local irreducible] strOf shaF zqcl padB zqc2 zqb3
theorem zq1t {w w' : World} {g i : Nat} {v : Value} (hb : Below w.heap.size w w') (hg : g < w.heap.size) (h : cellOf (zqd w g) i = some v) : cellOf (zqd w' g) i = some v := by
 rw [show zqd w' g = zqd w g from hb.block g hg]; exact h
def BytesAt (w : World) (g o n : Nat) (G : Nat -> Int) : Prop := g < w.heap.size /\ ∀ i, i < n -> cellOf (zqd w g) (o + i) = some (.int .u8 (G i))
theorem BytesAt.later {w w' : World} {g o n : Nat} {G : Nat -> Int} (h : BytesAt w g o n G) (hb : Below w.heap.size w w') : BytesAt w' g o n G :=
 ⟨Nat.lt_of_lt_of_le h.1 hb.size, fun i hi => zq1t hb h.1 (h.2 i hi)⟩
end Go.Proofs.YtnjghcnhcbobhaaGreatDoor
namespace Go.Proofs.YtnjghcnhcbobhaaGreatDoor
open Go.RowKit
attribute [local irreducible] strOf shaF zqcl padB zqc2 zqb3
def zq2o (f g : Nat -> Int) : Prop := ∀ i, i < 8 -> f i = g i
theorem WordsAt.same {w : World} {g o : Nat} {G G' : Nat -> Int} (h : WordsAt w g o 8 G) (e : zq2o G' G) : WordsAt w g o 8 G' := ⟨h.1, fun i hi => by rw [e i hi]; exact h.2 i hi⟩
end Go.Proofs.YtnjghcnhcbobhaaGreatDoor
namespace Go.Proofs.YtnjghcnhcbobhaaGreatDoor
open Go.RowKit
attribute [local irreducible] strOf shaF zqcl padB zqc2 zqb3
@[go_sem high] theorem zrcd (w : World) (g : Nat) : (Instr.sliceAt 43 (.pointer (some ⟨g, 0, none⟩)) none none none).run Tryz.prog w = .ok (.slice (some ⟨g, 0, none⟩) 32 32) w := by kernel_rfl
end Go.Proofs.YtnjghcnhcbobhaaGreatDoor
namespace Go.Proofs.YtnjghcnhcbobhaaGreatDoor
open Go.RowKit
def zqol (a b c : ByteArray) : Nat -> ByteArray := fun j => if j = 0 then a else if j = 1 then b else c
theorem zqqb (a b c : ByteArray) : catS (zqol a b c) 3 = a ++ b ++ c := by
 show ByteArray.empty ++ a ++ b ++ c = _
 rw [ByteArray.empty_append]
theorem zqst (a b c : ByteArray) (W : World) : (Instr.buildSlice 155 3 #[(0, .string a), (1, .string b), (2, .string c)]).run Tryz.prog W = .ok (.slice (some ⟨W.heap.size, 0, none⟩) 3 3) (W.alloc (.cells #[.string a, .string b, .string c] 9)) := by kernel_rfl
def zqjx (u v x : Value) : Sem Next := do pure (.value (<- Instr.buildSlice 155 3 #[(0, u), (1, v), (2, x)]))
@[go_sem ↓ high] theorem zqw7 (ρ : Operand -> Value) (d : Option Tmp) (x y z : Operand) (t : TypeId) (pos : String) (af : Array Edge) (g : Option (Nat × Bool)) :
  execOp ρ ⟨d, .buildSlice 155 3 #[(0, x), (1, y), (2, z)], t, pos, af, g⟩ = zqjx (ρ x) (ρ y) (ρ z) := by
 unfold execOp zqjx
 simp
@[go_sem high] theorem zrc0 (ρ : Operand -> Value) (d : Option Tmp) (x y z : Operand) (t : TypeId) (pos : String) (af : Array Edge) (g : Option (Nat × Bool)) :
  execOp ρ ⟨d, .buildSlice 155 3 #[(0, x), (1, y), (2, z)], t, pos, af, g⟩ = zqjx (ρ x) (ρ y) (ρ z) := zqw7 ρ d x y z t pos af g
@[go_sem] theorem zrcv (a b c : ByteArray) (W : World) : (zqjx (.string a) (.string b) (.string c)).run Tryz.prog W = .ok (.value (.slice (some ⟨W.heap.size, 0, none⟩) 3 3)) (W.alloc (.cells #[.string a, .string b, .string c] 9)) := by
 unfold zqjx
 simp only [Sem.run_bind, zqst, Result.andThen_ok, Sem.run_pure]
attribute [irreducible] zqjx
theorem zqyp {W : World} {g : Nat} {a b c : ByteArray} {t : TypeId} {fr : Nat × Nat} (h : zqd W g = some (.cells #[.string a, .string b, .string c] t fr)) : StrsAt W (some ⟨g, 0, none⟩) 3 (zqol a b c) := by
 refine .inr ⟨_, rfl, fun w' hb j hj => ?_⟩;have h' := zqb hb h;unfold zqd at h';have e : (⟨g, 0, none⟩ : Addr).add j = ⟨g, j, none⟩ := by unfold Addr.add; split <;> simp_all
 rw [e, cell_of_row w' g _ _ _ _ h']
 rcases (by omega : j = 0 \/ j = 1 \/ j = 2) with rfl | rfl | rfl <;> rfl
theorem zq18 (key a b c : ByteArray) (g : Nat) (W : World) (hk : key.size < 1152921504606846976) (hs : a.size + b.size + c.size < 1152921504606840000) (h : StrsAt W (some ⟨g, 0, none⟩) 3 (zqol a b c)) (hT : Tabs W) :
  Calls Tryz.prog 82 #[.string key, .slice (some ⟨g, 0, none⟩) 3 3] W (Rt W (.agg (ints .u8 32 (macF key (a ++ b ++ c))))) := by
 have := zqph key (some ⟨g, 0, none⟩) 3 3 (zqol a b c) W hk (by rw [zqqb, ByteArray.size_append, ByteArray.size_append]; exact hs) (by decide) h hT;rw [zqqb] at this;exact this
end Go.Proofs.YtnjghcnhcbobhaaGreatDoor
namespace Go.Proofs.YtnjghcnhcbobhaaGreatDoor
open Go.RowKit
attribute [local irreducible] strOf shaF zqcl padB zqc2 zqb3 macF
theorem zqfj {s t : ByteArray} (h : s.size = t.size) (h2 : ∀ i, i < s.size -> byteAt s i = byteAt t i) : s = t := by
 apply ByteArray.ext
 apply Array.ext h
 intro i i1 i2;have e := h2 i i1;rw [<- zqd1 s i i1, <- zqd1 t i i2] at e;have e2 : (s[i]).toNat = (t[i]).toNat := by exact_mod_cast e
 exact UInt8.toNat_inj.1 e2
def zqmt (i : Nat) : ByteArray := strOf 1 fun _ => ((i % 256 : Nat) : Int)
theorem zqyl (i : Nat) : (zqmt i).size = 1 := zqaf _ _
def tB (K info : ByteArray) : Nat -> ByteArray
 | 0 => ByteArray.empty
 | i + 1 => strOf 32 (macF K (tB K info i ++ info ++ zqmt (i + 1)))
theorem zqlc (K info : ByteArray) (i : Nat) : (tB K info (i + 1)).size = 32 := zqaf _ _
theorem zrl2 (K info : ByteArray) (i : Nat) : (tB K info i).size <= 32 := by
 cases i with
 | zero => exact Nat.zero_le _
 | succ i => rw [zqlc]; omega
def zqfq (K info : ByteArray) : Nat -> Int := fun i => byteAt (tB K info (i / 32 + 1)) (i % 32)
theorem zqjb (K info : ByteArray) (i : Nat) : 0 <= zqfq K info i /\ zqfq K info i <= 255 := zql9 _ _
theorem zqrd (K info : ByteArray) (m : Nat) : strOf (32 * m) (zqfq K info) ++ tB K info (m + 1) = strOf (32 * (m + 1)) (zqfq K info) := by
 have hs : (strOf (32 * m) (zqfq K info)).size = 32 * m := zqaf _ _;refine zqfj (by rw [ByteArray.size_append, zqaf, zqaf, zqlc]; omega) fun i hi => ?_
 rw [ByteArray.size_append, zqaf, zqlc] at hi;rw [zqc7 _ _ _ (by omega) (zqjb _ _ _)]
 by_cases h : i < 32 * m
 ·rw [zqe8 _ _ _ (by rw [zqaf]; exact h), zqc7 _ _ _ h (zqjb _ _ _)]
 ·obtain ⟨k, rfl⟩ : ∃ k, i = 32 * m + k := ⟨i - 32 * m, by omega⟩
  have := zqeg (strOf (32 * m) (zqfq K info)) (tB K info (m + 1)) k (by rw [zqlc]; omega);rw [hs] at this;rw [this];unfold zqfq;rw [show (32 * m + k) / 32 = m by omega, show (32 * m + k) % 32 = k by omega]
theorem zqhg (f : Nat -> Int) : strOf 0 f = ByteArray.empty := zqfj (by rw [zqaf]; rfl) fun i hi => by rw [zqaf] at hi; omega
theorem zqxs (s : ByteArray) (a b i : Nat) (h : a + i < b) (hb : b <= s.size) : byteAt (s.extract a b) i = byteAt s (a + i) := by
 have h1 : i < (s.extract a b).size := by rw [ByteArray.size_extract]; omega
 rw [<- zqd1 _ _ h1, <- zqd1 _ _ (show a + i < s.size by omega), ByteArray.getElem_extract]
theorem zqo0 (N a n : Nat) (f : Nat -> Int) (hf : ∀ i, 0 <= f i /\ f i <= 255) (h : a + n <= N) : (strOf N f).extract a (a + n) = strOf n (fun i => f (a + i)) := by
 have hs : (strOf N f).size = N := zqaf _ _;refine zqfj (by rw [ByteArray.size_extract, zqaf, zqaf]; omega) fun i hi => ?_
 rw [ByteArray.size_extract, zqaf] at hi;rw [zqxs _ _ _ _ (by omega) (by omega), zqc7 _ _ _ (by omega) (hf _), zqc7 n (fun i => f (a + i)) _ (by omega) (hf _)]
theorem zqsb (N n : Nat) (f : Nat -> Int) (hf : ∀ i, 0 <= f i /\ f i <= 255) (h : n <= N) : (strOf N f).extract 0 n = strOf n f := by
 have := zqo0 N 0 n f hf (by omega)
 simpa using this
def oneF (K info : ByteArray) : Nat -> Int := macF K (info ++ zqmt 1)
theorem zrgr (K info : ByteArray) : tB K info 1 = strOf 32 (oneF K info) := by
 show strOf 32 (macF K (ByteArray.empty ++ info ++ zqmt 1)) = _
 rw [ByteArray.empty_append]; rfl
theorem zqqn (K info : ByteArray) : Bytes 32 (oneF K info) := zqr8 _ _
theorem zq7q (K info : ByteArray) : strOf 32 (zqfq K info) = strOf 32 (oneF K info) := by
 have := zqrd K info 0;rw [zqhg, ByteArray.empty_append, zrgr] at this;exact this.symm
def zqck (name secret info : ByteArray) : Nat -> Int := oneF (strOf 32 (macF name secret)) info
theorem zqsp (name secret info : ByteArray) : Bytes 32 (zqck name secret info) := zqqn _ _
end Go.Proofs.YtnjghcnhcbobhaaGreatDoor
namespace Go.Proofs.YtnjghcnhcbobhaaGreatDoor
open Go.RowKit
attribute [local irreducible] strOf shaF zqcl padB zqc2 zqb3
attribute [local irreducible] macF
theorem zqkj (c : Int) : ints .u8 1 (fun _ => c) = #[.int .u8 c] := by unfold ints; rfl
theorem zray {W : World} {g i : Nat} {x : Int} {t : TypeId} (h : Full g #[.int .u8 x] t W) (e : x = ((i % 256 : Nat) : Int)) (m : More) : (convert 144 9 (.slice (some ⟨g, 0, none⟩) 1 1)).run Tryz.prog (more W m) = .ok (.string (zqmt i)) (more W m) := by
 subst e;exact zqek (P := Tryz.prog) Tryz.underlying144 Tryz.underlying5 Tryz.underlying9 g 1 1 1 (fun _ => ((i % 256 : Nat) : Int)) (more W m) (te := t) (fr := (0, 0)) (zqp m (by rw [zqkj]; exact h)) (by decide)
end Go.Proofs.YtnjghcnhcbobhaaGreatDoor
namespace Go.Proofs.YtnjghcnhcbobhaaGreatDoor
open Go.RowKit
attribute [local irreducible] strOf shaF zqcl padB zqc2 zqb3
attribute [local irreducible] macF
def zqpe : Prop := ∀ (k : Nat -> Int) (info : ByteArray) (n : Int) (W : World), Bytes 32 k -> info.size <= 100000 -> Tabs W -> Calls Tryz.prog 169 #[.agg (ints .u8 32 k), .string info, .int .i64 n] W (Rt W (.tuple #[.string (if 0 <= n /\ n <= 8160 then strOf n.toNat (zqfq (strOf 32 k) info) else ByteArray.empty), .bool (decide (0 <= n /\ n <= 8160))]))
theorem zqlv (hE : zqpe) (k : Nat -> Int) (info : ByteArray) (N : Nat) (W : World) (hk : Bytes 32 k) (hi : info.size <= 100000) (hN : N <= 8160) (hT : Tabs W) : Calls Tryz.prog 169 #[.agg (ints .u8 32 k), .string info, .int .i64 (N : Int)] W (Rt W (.tuple #[.string (strOf N (zqfq (strOf 32 k) info)), .bool true])) := by
 have h := hE k info N W hk hi hT;have h0 : 0 <= (N : Int) /\ (N : Int) <= 8160 := ⟨by omega, by omega⟩
 rw [if_pos h0, decide_eq_true h0, show ((N : Int)).toNat = N by omega] at h;exact h
theorem zqyz (w : World) (hT : Tabs w) :
  Calls Tryz.prog 242 #[] w (Rt w (.bool true)) := by
 have hG := Grew.refl w
 go_enter Tryz.func242, Tryz.ntmps242
 go_wp2_with fail
 (refine (zqwb _ hT).mono ?_; rintro e w1 ⟨rfl, hb⟩; replace hG : Below w.heap.size w w1 := Grew.trans (by exact zqe) hb; clear hb)
 go_wp2;go_ret;exact ⟨rfl, by exact zqe⟩
theorem zqwg (hE : zqpe) (w : World) (hT : Tabs w) :
  Calls Tryz.prog 241 #[] w (Rt w (.bool true)) := by
 have hTT : Hid (Tabs w) := hT;clear hT;have c0 : ∀ W : World, Below w.heap.size w W -> Calls Tryz.prog 169 #[.agg (ints .u8 32 zqg), .string ByteArray.empty, .int .i64 0] W (Rt W (.tuple #[.string ByteArray.empty, .bool true])) := fun W hW => by
  have := zqlv hE zqg ByteArray.empty 0 W (fun _ _ => ⟨Int.le_refl 0, by show (0 : Int) <= 255; decide⟩) (by decide) (by decide) (hTT.out.later hW);rw [zqhg] at this;exact this
 have c1 : ∀ W : World, Below w.heap.size w W -> Calls Tryz.prog 169 #[.agg (ints .u8 32 zqg), .string ByteArray.empty, .int .i64 1] W (Rt W (.tuple #[.string (strOf 1 (zqfq (strOf 32 zqg) ByteArray.empty)), .bool true])) := fun W hW => zqlv hE zqg ByteArray.empty 1 W (fun _ _ => ⟨Int.le_refl 0, by show (0 : Int) <= 255; decide⟩) (by decide) (by decide) (hTT.out.later hW);have hz : (strOf 1 (zqfq (strOf 32 zqg) ByteArray.empty)).size = 1 := zqaf _ _;generalize strOf 1 (zqfq (strOf 32 zqg) ByteArray.empty) = S1 at *;clear hE;have hG := Grew.refl w
 go_enter Tryz.func241, Tryz.ntmps241
 go_wp2_with fail
 (refine (c0 _ hG).mono ?_; rintro e w1 ⟨rfl, hb⟩; replace hG : Below w.heap.size w w1 := Grew.trans (by exact zqe) hb; clear hb)
 go_wp2_with fail
 (refine (c1 _ hG).mono ?_; rintro e w2 ⟨rfl, hb⟩; replace hG : Below w.heap.size w w2 := Grew.trans (by exact zqe) hb; clear hb)
 go_wp2_with fail
 (refine (zqyz _ (hTT.out.later hG)).mono ?_; rintro e w3 ⟨rfl, hb⟩; replace hG : Below w.heap.size w w3 := Grew.trans (by exact zqe) hb; clear hb)
 go_wp2;go_ret;exact ⟨rfl, by exact zqe⟩
theorem zqwt (hE : zqpe) (w : World) (hT : Tabs w) :
  Calls Tryz.prog 239 #[] w (Rt w (.bool true)) := by
 have hG := Grew.refl w
 go_enter Tryz.func239, Tryz.ntmps239
 go_wp2_with fail
 (refine (zqwg hE _ hT).mono ?_; rintro e w1 ⟨rfl, hb⟩; replace hG : Below w.heap.size w w1 := Grew.trans (by exact zqe) hb; clear hb)
 go_wp2;go_ret;exact ⟨rfl, by exact zqe⟩
end Go.Proofs.YtnjghcnhcbobhaaGreatDoor
namespace Go.Proofs.YtnjghcnhcbobhaaGreatDoor
open Go.RowKit
attribute [local irreducible] strOf shaF zqcl padB zqc2 zqb3
attribute [local irreducible] macF
end Go.Proofs.YtnjghcnhcbobhaaGreatDoor
