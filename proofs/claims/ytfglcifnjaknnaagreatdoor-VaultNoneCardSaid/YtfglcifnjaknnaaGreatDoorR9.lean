/- R9 -/
import Derived.Test.YtfglcifnjaknnaaGreatDoorOw
import Derived.Test.YtfglcifnjaknnaaGreatDoorSw
import Derived.Test.YtfglcifnjaknnaaGreatDoorMa
import Derived.Test.YtfglcifnjaknnaaGreatDoorShelf
set_option linter.unusedVariables false
set_option linter.unusedSimpArgs false
set_option maxRecDepth 100000
set_option maxHeartbeats 4000000
namespace Go.Proofs.YtfglcifnjaknnaaGreatDoor
open Go.RowKit
attribute [local irreducible] strOf shaF zqcd padB zqc0 zqbv
theorem zqze {w w' : World} {g i : Nat} {v : Value} (hb : Below w.heap.size w w') (hg : g < w.heap.size) (h : cellOf (zqe w g) i = some v) : cellOf (zqe w' g) i = some v := by
 rw [show zqe w' g = zqe w g from hb.block g hg]; exact h
def BytesAt (w : World) (g o n : Nat) (G : Nat -> Int) : Prop := g < w.heap.size /\ ∀ i, i < n -> cellOf (zqe w g) (o + i) = some (.int .u8 (G i))
theorem BytesAt.later {w w' : World} {g o n : Nat} {G : Nat -> Int} (h : BytesAt w g o n G) (hb : Below w.heap.size w w') : BytesAt w' g o n G :=
 ⟨Nat.lt_of_lt_of_le h.1 hb.size, fun i hi => zqze hb h.1 (h.2 i hi)⟩
end Go.Proofs.YtfglcifnjaknnaaGreatDoor
namespace Go.Proofs.YtfglcifnjaknnaaGreatDoor
open Go.RowKit
attribute [local irreducible] strOf shaF zqcd padB zqc0 zqbv
def zqz3 (f g : Nat -> Int) : Prop := ∀ i, i < 8 -> f i = g i
theorem WordsAt.same {w : World} {g o : Nat} {G G' : Nat -> Int} (h : WordsAt w g o 8 G) (e : zqz3 G' G) : WordsAt w g o 8 G' := ⟨h.1, fun i hi => by rw [e i hi]; exact h.2 i hi⟩
end Go.Proofs.YtfglcifnjaknnaaGreatDoor
namespace Go.Proofs.YtfglcifnjaknnaaGreatDoor
open Go.RowKit
attribute [local irreducible] strOf shaF zqcd padB zqc0 zqbv
@[go_sem high] theorem zrah (w : World) (g : Nat) : (Instr.sliceAt 28 (.pointer (some ⟨g, 0, none⟩)) none none none).run Tryz.prog w = .ok (.slice (some ⟨g, 0, none⟩) 32 32) w := by kernel_rfl
end Go.Proofs.YtfglcifnjaknnaaGreatDoor
namespace Go.Proofs.YtfglcifnjaknnaaGreatDoor
open Go.RowKit
def zqnv (a b c : ByteArray) : Nat -> ByteArray := fun j => if j = 0 then a else if j = 1 then b else c
theorem zqq6 (a b c : ByteArray) : catS (zqnv a b c) 3 = a ++ b ++ c := by
 show ByteArray.empty ++ a ++ b ++ c = _
 rw [ByteArray.empty_append]
theorem zqst (a b c : ByteArray) (W : World) : (Instr.buildSlice 195 3 #[(0, .string a), (1, .string b), (2, .string c)]).run Tryz.prog W = .ok (.slice (some ⟨W.heap.size, 0, none⟩) 3 3) (W.alloc (.cells #[.string a, .string b, .string c] 9)) := by kernel_rfl
def zqjp (u v x : Value) : Sem Next := do pure (.value (<- Instr.buildSlice 195 3 #[(0, u), (1, v), (2, x)]))
@[go_sem ↓ high] theorem zqwp (ρ : Operand -> Value) (d : Option Tmp) (x y z : Operand) (t : TypeId) (pos : String) (af : Array Edge) (g : Option (Nat × Bool)) :
  execOp ρ ⟨d, .buildSlice 195 3 #[(0, x), (1, y), (2, z)], t, pos, af, g⟩ = zqjp (ρ x) (ρ y) (ρ z) := by
 unfold execOp zqjp
 simp
@[go_sem high] theorem zraz (ρ : Operand -> Value) (d : Option Tmp) (x y z : Operand) (t : TypeId) (pos : String) (af : Array Edge) (g : Option (Nat × Bool)) :
  execOp ρ ⟨d, .buildSlice 195 3 #[(0, x), (1, y), (2, z)], t, pos, af, g⟩ = zqjp (ρ x) (ρ y) (ρ z) := zqwp ρ d x y z t pos af g
@[go_sem] theorem zq8q (a b c : ByteArray) (W : World) : (zqjp (.string a) (.string b) (.string c)).run Tryz.prog W = .ok (.value (.slice (some ⟨W.heap.size, 0, none⟩) 3 3)) (W.alloc (.cells #[.string a, .string b, .string c] 9)) := by
 unfold zqjp
 simp only [Sem.run_bind, zqst, Result.andThen_ok, Sem.run_pure]
attribute [irreducible] zqjp
theorem zqx6 {W : World} {g : Nat} {a b c : ByteArray} {t : TypeId} {fr : Nat × Nat} (h : zqe W g = some (.cells #[.string a, .string b, .string c] t fr)) : StrsAt W (some ⟨g, 0, none⟩) 3 (zqnv a b c) := by
 refine .inr ⟨_, rfl, fun w' hb j hj => ?_⟩;have h' := zqc hb h;unfold zqe at h';have e : (⟨g, 0, none⟩ : Addr).add j = ⟨g, j, none⟩ := by unfold Addr.add; split <;> simp_all
 rw [e, cell_of_row w' g _ _ _ _ h']
 rcases (by omega : j = 0 \/ j = 1 \/ j = 2) with rfl | rfl | rfl <;> rfl
theorem zq1l (key a b c : ByteArray) (g : Nat) (W : World) (hk : key.size < 1152921504606846976) (hs : a.size + b.size + c.size < 1152921504606840000) (h : StrsAt W (some ⟨g, 0, none⟩) 3 (zqnv a b c)) (hT : Tabs W) :
  Calls Tryz.prog 78 #[.string key, .slice (some ⟨g, 0, none⟩) 3 3] W (Rt W (.agg (ints .u8 32 (macF key (a ++ b ++ c))))) := by
 have := zqku key (some ⟨g, 0, none⟩) 3 3 (zqnv a b c) W hk (by rw [zqq6, ByteArray.size_append, ByteArray.size_append]; exact hs) (by decide) h hT;rw [zqq6] at this;exact this
attribute [local irreducible] strOf shaF zqcd padB zqc0 zqbv macF
theorem zqgv {s t : ByteArray} (h : s.size = t.size) (h2 : ∀ i, i < s.size -> byteAt s i = byteAt t i) : s = t := by
 apply ByteArray.ext
 apply Array.ext h
 intro i i1 i2;have e := h2 i i1;rw [<- zqdr s i i1, <- zqdr t i i2] at e;have e2 : (s[i]).toNat = (t[i]).toNat := by exact_mod_cast e
 exact UInt8.toNat_inj.1 e2
def zqmb (i : Nat) : ByteArray := strOf 1 fun _ => ((i % 256 : Nat) : Int)
theorem zqv4 (i : Nat) : (zqmb i).size = 1 := zq5 _ _
def tB (K info : ByteArray) : Nat -> ByteArray
 | 0 => ByteArray.empty
 | i + 1 => strOf 32 (macF K (tB K info i ++ info ++ zqmb (i + 1)))
theorem zqk3 (K info : ByteArray) (i : Nat) : (tB K info (i + 1)).size = 32 := zq5 _ _
theorem zrlp (K info : ByteArray) (i : Nat) : (tB K info i).size <= 32 := by
 cases i with
 | zero => exact Nat.zero_le _
 | succ i => rw [zqk3]; omega
def zqfd (K info : ByteArray) : Nat -> Int := fun i => byteAt (tB K info (i / 32 + 1)) (i % 32)
theorem zqjb (K info : ByteArray) (i : Nat) : 0 <= zqfd K info i /\ zqfd K info i <= 255 := zqmi _ _
theorem zqqf (K info : ByteArray) (m : Nat) : strOf (32 * m) (zqfd K info) ++ tB K info (m + 1) = strOf (32 * (m + 1)) (zqfd K info) := by
 have hs : (strOf (32 * m) (zqfd K info)).size = 32 * m := zq5 _ _;refine zqgv (by rw [ByteArray.size_append, zq5, zq5, zqk3]; omega) fun i hi => ?_
 rw [ByteArray.size_append, zq5, zqk3] at hi;rw [zqd6 _ _ _ (by omega) (zqjb _ _ _)]
 by_cases h : i < 32 * m
 ·rw [zqfu _ _ _ (by rw [zq5]; exact h), zqd6 _ _ _ h (zqjb _ _ _)]
 ·obtain ⟨k, rfl⟩ : ∃ k, i = 32 * m + k := ⟨i - 32 * m, by omega⟩
  have := zqe7 (strOf (32 * m) (zqfd K info)) (tB K info (m + 1)) k (by rw [zqk3]; omega);rw [hs] at this;rw [this];unfold zqfd;rw [show (32 * m + k) / 32 = m by omega, show (32 * m + k) % 32 = k by omega]
theorem zqi6 (f : Nat -> Int) : strOf 0 f = ByteArray.empty := zqgv (by rw [zq5]; rfl) fun i hi => by rw [zq5] at hi; omega
theorem zqyb (s : ByteArray) (a b i : Nat) (h : a + i < b) (hb : b <= s.size) : byteAt (s.extract a b) i = byteAt s (a + i) := by
 have h1 : i < (s.extract a b).size := by rw [ByteArray.size_extract]; omega
 rw [<- zqdr _ _ h1, <- zqdr _ _ (show a + i < s.size by omega), ByteArray.getElem_extract]
theorem zqn5 (N a n : Nat) (f : Nat -> Int) (hf : ∀ i, 0 <= f i /\ f i <= 255) (h : a + n <= N) : (strOf N f).extract a (a + n) = strOf n (fun i => f (a + i)) := by
 have hs : (strOf N f).size = N := zq5 _ _;refine zqgv (by rw [ByteArray.size_extract, zq5, zq5]; omega) fun i hi => ?_
 rw [ByteArray.size_extract, zq5] at hi;rw [zqyb _ _ _ _ (by omega) (by omega), zqd6 _ _ _ (by omega) (hf _), zqd6 n (fun i => f (a + i)) _ (by omega) (hf _)]
theorem zqr4 (N n : Nat) (f : Nat -> Int) (hf : ∀ i, 0 <= f i /\ f i <= 255) (h : n <= N) : (strOf N f).extract 0 n = strOf n f := by
 have := zqn5 N 0 n f hf (by omega)
 simpa using this
def oneF (K info : ByteArray) : Nat -> Int := macF K (info ++ zqmb 1)
theorem zre7 (K info : ByteArray) : tB K info 1 = strOf 32 (oneF K info) := by
 show strOf 32 (macF K (ByteArray.empty ++ info ++ zqmb 1)) = _
 rw [ByteArray.empty_append]; rfl
theorem zqqy (K info : ByteArray) : Bytes 32 (oneF K info) := zqis _ _
theorem zq5y (K info : ByteArray) : strOf 32 (zqfd K info) = strOf 32 (oneF K info) := by
 have := zqqf K info 0;rw [zqi6, ByteArray.empty_append, zre7] at this;exact this.symm
def zqbw (name secret info : ByteArray) : Nat -> Int := oneF (strOf 32 (macF name secret)) info
theorem zqtz (name secret info : ByteArray) : Bytes 32 (zqbw name secret info) := zqqy _ _
end Go.Proofs.YtfglcifnjaknnaaGreatDoor
namespace Go.Proofs.YtfglcifnjaknnaaGreatDoor
open Go.RowKit
attribute [local irreducible] strOf shaF zqcd padB zqc0 zqbv
attribute [local irreducible] macF
theorem zqp8 (c : Int) : ints .u8 1 (fun _ => c) = #[.int .u8 c] := by unfold ints; rfl
theorem zra6 {W : World} {g i : Nat} {x : Int} {t : TypeId} (h : Full g #[.int .u8 x] t W) (e : x = ((i % 256 : Nat) : Int)) (m : More) : (convert 157 9 (.slice (some ⟨g, 0, none⟩) 1 1)).run Tryz.prog (more W m) = .ok (.string (zqmb i)) (more W m) := by
 subst e;exact zqdj (P := Tryz.prog) Tryz.underlying157 Tryz.underlying5 Tryz.underlying9 g 1 1 1 (fun _ => ((i % 256 : Nat) : Int)) (more W m) (te := t) (fr := (0, 0)) (zqp m (by rw [zqp8]; exact h)) (by decide)
end Go.Proofs.YtfglcifnjaknnaaGreatDoor
namespace Go.Proofs.YtfglcifnjaknnaaGreatDoor
open Go.RowKit
attribute [local irreducible] strOf shaF zqcd padB zqc0 zqbv
attribute [local irreducible] macF
def zqn7 : Prop := ∀ (k : Nat -> Int) (info : ByteArray) (n : Int) (W : World), Bytes 32 k -> info.size <= 100000 -> Tabs W -> Calls Tryz.prog 173 #[.agg (ints .u8 32 k), .string info, .int .i64 n] W (Rt W (.tuple #[.string (if 0 <= n /\ n <= 8160 then strOf n.toNat (zqfd (strOf 32 k) info) else ByteArray.empty), .bool (decide (0 <= n /\ n <= 8160))]))
theorem zqk9 (hE : zqn7) (k : Nat -> Int) (info : ByteArray) (N : Nat) (W : World) (hk : Bytes 32 k) (hi : info.size <= 100000) (hN : N <= 8160) (hT : Tabs W) : Calls Tryz.prog 173 #[.agg (ints .u8 32 k), .string info, .int .i64 (N : Int)] W (Rt W (.tuple #[.string (strOf N (zqfd (strOf 32 k) info)), .bool true])) := by
 have h := hE k info N W hk hi hT;have h0 : 0 <= (N : Int) /\ (N : Int) <= 8160 := ⟨by omega, by omega⟩
 rw [if_pos h0, decide_eq_true h0, show ((N : Int)).toNat = N by omega] at h;exact h
theorem zqvq (w : World) (hT : Tabs w) :
  Calls Tryz.prog 248 #[] w (Rt w (.bool true)) := by
 have hG := Grew.refl w
 go_enter Tryz.func248, Tryz.ntmps248
 go_wp2_with fail
 (refine (zqwi _ hT).mono ?_; rintro e w1 ⟨rfl, hb⟩; replace hG : Below w.heap.size w w1 := Grew.trans (by exact zqf) hb; clear hb)
 go_wp2;go_ret;exact ⟨rfl, by exact zqf⟩
theorem zqwu (hE : zqn7) (w : World) (hT : Tabs w) :
  Calls Tryz.prog 247 #[] w (Rt w (.bool true)) := by
 have hTT : Hid (Tabs w) := hT;clear hT;have c0 : ∀ W : World, Below w.heap.size w W -> Calls Tryz.prog 173 #[.agg (ints .u8 32 zqd), .string ByteArray.empty, .int .i64 0] W (Rt W (.tuple #[.string ByteArray.empty, .bool true])) := fun W hW => by
  have := zqk9 hE zqd ByteArray.empty 0 W (fun _ _ => ⟨Int.le_refl 0, by show (0 : Int) <= 255; decide⟩) (by decide) (by decide) (hTT.out.later hW);rw [zqi6] at this;exact this
 have c1 : ∀ W : World, Below w.heap.size w W -> Calls Tryz.prog 173 #[.agg (ints .u8 32 zqd), .string ByteArray.empty, .int .i64 1] W (Rt W (.tuple #[.string (strOf 1 (zqfd (strOf 32 zqd) ByteArray.empty)), .bool true])) := fun W hW => zqk9 hE zqd ByteArray.empty 1 W (fun _ _ => ⟨Int.le_refl 0, by show (0 : Int) <= 255; decide⟩) (by decide) (by decide) (hTT.out.later hW);have hz : (strOf 1 (zqfd (strOf 32 zqd) ByteArray.empty)).size = 1 := zq5 _ _;generalize strOf 1 (zqfd (strOf 32 zqd) ByteArray.empty) = S1 at *;clear hE;have hG := Grew.refl w
 go_enter Tryz.func247, Tryz.ntmps247
 go_wp2_with fail
 (refine (c0 _ hG).mono ?_; rintro e w1 ⟨rfl, hb⟩; replace hG : Below w.heap.size w w1 := Grew.trans (by exact zqf) hb; clear hb)
 go_wp2_with fail
 (refine (c1 _ hG).mono ?_; rintro e w2 ⟨rfl, hb⟩; replace hG : Below w.heap.size w w2 := Grew.trans (by exact zqf) hb; clear hb)
 go_wp2_with fail
 (refine (zqvq _ (hTT.out.later hG)).mono ?_; rintro e w3 ⟨rfl, hb⟩; replace hG : Below w.heap.size w w3 := Grew.trans (by exact zqf) hb; clear hb)
 go_wp2;go_ret;exact ⟨rfl, by exact zqf⟩
theorem zqyc (hE : zqn7) (w : World) (hT : Tabs w) :
  Calls Tryz.prog 245 #[] w (Rt w (.bool true)) := by
 have hG := Grew.refl w
 go_enter Tryz.func245, Tryz.ntmps245
 go_wp2_with fail
 (refine (zqwu hE _ hT).mono ?_; rintro e w1 ⟨rfl, hb⟩; replace hG : Below w.heap.size w w1 := Grew.trans (by exact zqf) hb; clear hb)
 go_wp2;go_ret;exact ⟨rfl, by exact zqf⟩
end Go.Proofs.YtfglcifnjaknnaaGreatDoor
namespace Go.Proofs.YtfglcifnjaknnaaGreatDoor
open Go.RowKit
attribute [local irreducible] strOf shaF zqcd padB zqc0 zqbv
attribute [local irreducible] macF
end Go.Proofs.YtfglcifnjaknnaaGreatDoor
