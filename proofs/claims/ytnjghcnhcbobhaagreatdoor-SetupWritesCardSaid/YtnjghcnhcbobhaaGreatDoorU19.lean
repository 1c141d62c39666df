/- U19 -/
import Derived.Test.YtnjghcnhcbobhaaGreatDoorB17
import Derived.Test.YtnjghcnhcbobhaaGreatDoorQ12
set_option linter.unusedVariables false
set_option linter.unusedSimpArgs false
set_option maxRecDepth 100000
set_option maxHeartbeats 4000000
namespace Go.Proofs.YtnjghcnhcbobhaaGreatDoor
open Go.RowKit Go.Extern
theorem zq83 : ByteArray.empty.size = 0 := rfl
section
variable (st lf : Int) (n : Nat) (P : Nat -> Nat -> Int) (t : Nat -> Int)
end
end Go.Proofs.YtnjghcnhcbobhaaGreatDoor
namespace Go.Proofs.YtnjghcnhcbobhaaGreatDoor
open Go.RowKit Go.Lib
def uvC (s : Int) (l : Int) (b : Value) (t : Nat -> Int) : Array Value := (#[Value.int .u32 s, Value.int .u16 l, b] : Array Value) ++ ints .u8 32 t
@[go_sem] theorem zqv0 (s : Int) (l : Int) (b : Value) (t : Nat -> Int) : (uvC s l b t).size = 35 := by kernel_rfl
@[go_sem] theorem zrl3 (ob : Option Addr) (nb cb : Nat) (s : Int) (l : Int) (t : Nat -> Int) : zqak (uvC s l (.slice ob nb cb) t) = true := by kernel_rfl
@[go_sem] theorem zrnn (s : Int) (l : Int) (b : Value) (t : Nat -> Int) : (uvC s l b t)[0]? = some (Value.int .u32 s) := by kernel_rfl
@[go_sem] theorem zron (s : Int) (l : Int) (b : Value) (t : Nat -> Int) (h : 0 < (uvC s l b t).size) : (uvC s l b t)[0] = Value.int .u32 s := Option.some.inj ((Array.getElem?_eq_getElem h).symm.trans (zrnn s l b t))
@[go_sem] theorem zrly (s : Int) (l : Int) (b : Value) (t : Nat -> Int) (s9 : Int) : (uvC s l b t).setIfInBounds 0 (Value.int .u32 s9) = uvC s9 l b t := by kernel_rfl
@[go_sem] theorem zrl8 (s : Int) (l : Int) (b : Value) (t : Nat -> Int) : (uvC s l b t)[1]? = some (Value.int .u16 l) := by kernel_rfl
@[go_sem] theorem zrok (s : Int) (l : Int) (b : Value) (t : Nat -> Int) (h : 1 < (uvC s l b t).size) : (uvC s l b t)[1] = Value.int .u16 l := Option.some.inj ((Array.getElem?_eq_getElem h).symm.trans (zrl8 s l b t))
@[go_sem] theorem zrk1 (s : Int) (l : Int) (b : Value) (t : Nat -> Int) (l9 : Int) : (uvC s l b t).setIfInBounds 1 (Value.int .u16 l9) = uvC s l9 b t := by kernel_rfl
@[go_sem] theorem zrma (s : Int) (l : Int) (b : Value) (t : Nat -> Int) : (uvC s l b t)[2]? = some (b) := by kernel_rfl
@[go_sem] theorem zroh (s : Int) (l : Int) (b : Value) (t : Nat -> Int) (h : 2 < (uvC s l b t).size) : (uvC s l b t)[2] = b := Option.some.inj ((Array.getElem?_eq_getElem h).symm.trans (zrma s l b t))
@[go_sem] theorem zrlz (s : Int) (l : Int) (b : Value) (t : Nat -> Int) (b9 : Value) : (uvC s l b t).setIfInBounds 2 (b9) = uvC s l b9 t := by kernel_rfl
theorem zqvy (s : Int) (l : Int) (b : Value) (t : Nat -> Int) : (uvC s l b t).extract 3 (3 + 32) = ints .u8 32 t := by kernel_rfl
@[go_sem ↓ high] theorem zrkw (ρ : Operand -> Value) (d : Option Tmp) (x : Operand) (t : TypeId) (pos : String) (af : Array Edge) (g : Option (Nat × Bool)) :
  execOp ρ ⟨d, .load 227 x, t, pos, af, g⟩ = zqq 227 (ρ x) := zqax _ ρ d x t pos af g
@[go_sem high] theorem zriz (ρ : Operand -> Value) (d : Option Tmp) (x : Operand) (t : TypeId) (pos : String) (af : Array Edge) (g : Option (Nat × Bool)) :
  execOp ρ ⟨d, .load 227 x, t, pos, af, g⟩ = zqq 227 (ρ x) := zqax _ ρ d x t pos af g
@[go_sem] theorem zrbi (g : Nat) (w : World) : (zqq 227 (.pointer (some ⟨g, 0, none⟩))).run Tryz.prog w = (zqau Tryz.prog 227 g 35 w (zqd w g)).andThen fun v w' => .ok (.value v) w' := by
 rw [zq7, zqa6 Tryz.underlying227 rfl zqc g w]
@[go_sem] theorem zra1 (g : Nat) (w : World) (cs : Array Value) (t' : TypeId) (fr : Nat × Nat) (h : cs.size = 35) : zqau Tryz.prog 227 g 35 w (some (.cells cs t' fr)) = .ok (.agg cs) w := zqal cs t' fr h
@[go_sem ↓ high] theorem zrhs (ρ : Operand -> Value) (d : Option Tmp) (x y : Operand) (t : TypeId) (pos : String) (af : Array Edge) (g : Option (Nat × Bool)) :
  execOp ρ ⟨d, .store 227 x y, t, pos, af, g⟩ = zqu 227 (ρ x) (ρ y) := zqat _ ρ d x y t pos af g
@[go_sem high] theorem zrfl (ρ : Operand -> Value) (d : Option Tmp) (x y : Operand) (t : TypeId) (pos : String) (af : Array Edge) (g : Option (Nat × Bool)) :
  execOp ρ ⟨d, .store 227 x y, t, pos, af, g⟩ = zqu 227 (ρ x) (ρ y) := zqat _ ρ d x y t pos af g
@[go_sem] theorem zq9i (g : Nat) (cs : Array Value) (w : World) : (zqu 227 (.pointer (some ⟨g, 0, none⟩)) (.agg cs)).run Tryz.prog w = (zqam Tryz.prog 227 g 35 (.agg cs) w (zqd w g)).andThen fun _ w' => .ok .skip w' := by
 rw [zqae, zqbb zqc g cs w]
@[go_sem] theorem zq8e (g : Nat) (w : World) (old cs : Array Value) (t' : TypeId) (h1 : old.size = 35) (h2 : cs.size = 35) (h3 : zqak cs = true) :
  zqam Tryz.prog 227 g 35 (.agg cs) w (some (.cells old t' (0, 0))) = .ok () (w.setRow g cs) := zqar old cs t' h1 h2 h3
@[go_sem high] theorem zrhq (w : World) : (zeroValue 227).run Tryz.prog w = .ok (.agg (uvC 0 0 (.slice none 0 0) zqg)) w := by kernel_rfl
@[go_sem ↓ high] theorem zrj3 (w : World) : (zeroValue 227).run Tryz.prog w = .ok (.agg (uvC 0 0 (.slice none 0 0) zqg)) w := by kernel_rfl
@[go_sem] theorem zrko (w : World) : (zqb8 227).run Tryz.prog w = .ok (.value (.agg (uvC 0 0 (.slice none 0 0) zqg))) w := by kernel_rfl
@[go_sem] theorem zrf9 (g : Nat) (w : World) : (zqq 44 (.pointer (some ⟨g, 3, none⟩))).run Tryz.prog w = (zqbf Tryz.prog 44 g 3 32 w (zqd w g)).andThen fun v w' => .ok (.value v) w' := by
 rw [zq7, zqdd Tryz.underlying44 rfl zqc g 3 w]
@[go_sem] theorem zq66 (g : Nat) (w : World) (s : Int) (l : Int) (b : Value) (t : Nat -> Int) (t' : TypeId) (fr : Nat × Nat) : zqbf Tryz.prog 44 g 3 32 w (some (.cells (uvC s l b t) t' fr)) = .ok (.agg (ints .u8 32 t)) w := by
 unfold zqbf
 simp only [zqv0]
 rw [if_pos (by decide), zqvy]
@[go_sem] theorem zrga (g : Nat) (w : World) : (zqq 43 (.pointer (some ⟨g, 3, none⟩))).run Tryz.prog w = (zqbf Tryz.prog 43 g 3 32 w (zqd w g)).andThen fun v w' => .ok (.value v) w' := by
 rw [zq7, zqdd Tryz.underlying43 rfl zqc g 3 w]
@[go_sem] theorem zq4d (g : Nat) (w : World) (s : Int) (l : Int) (b : Value) (t : Nat -> Int) (t' : TypeId) (fr : Nat × Nat) : zqbf Tryz.prog 43 g 3 32 w (some (.cells (uvC s l b t) t' fr)) = .ok (.agg (ints .u8 32 t)) w := by
 unfold zqbf
 simp only [zqv0]
 rw [if_pos (by decide), zqvy]
def upB4 (x0 : Value) (x1 : Value) (x2 : Value) (x3 : Value) : Sem Next := do pure (.value (<- Instr.build 227 #[(0, x0), (1, x1), (2, x2), (3, x3)]))
@[go_sem ↓ high] theorem zrme (ρ : Operand -> Value) (dd : Option Tmp) (x0 x1 x2 x3 : Operand) (t : TypeId) (pos : String) (af : Array Edge) (gg : Option (Nat × Bool)) :
  execOp ρ ⟨dd, .build 227 #[(0, x0), (1, x1), (2, x2), (3, x3)], t, pos, af, gg⟩ = upB4 (ρ x0) (ρ x1) (ρ x2) (ρ x3) := by simp [execOp, upB4]
@[go_sem high] theorem zrkx (ρ : Operand -> Value) (dd : Option Tmp) (x0 x1 x2 x3 : Operand) (t : TypeId) (pos : String) (af : Array Edge) (gg : Option (Nat × Bool)) :
  execOp ρ ⟨dd, .build 227 #[(0, x0), (1, x1), (2, x2), (3, x3)], t, pos, af, gg⟩ = upB4 (ρ x0) (ρ x1) (ρ x2) (ρ x3) := by simp [execOp, upB4]
theorem zq1l (s : Int) (l : Int) (ob : Option Addr) (nb cb : Nat) (t : Nat -> Int) (w : World) : (Instr.build 227 #[(0, .int .u32 s), (1, .int .u16 l), (2, .slice ob nb cb), (3, .agg (ints .u8 32 t))]).run Tryz.prog w = .ok (.agg (uvC s l (.slice ob nb cb) t)) w := by kernel_rfl
@[go_sem] theorem zrlw (s : Int) (l : Int) (ob : Option Addr) (nb cb : Nat) (t : Nat -> Int) (w : World) : (upB4 (.int .u32 s) (.int .u16 l) (.slice ob nb cb) (.agg (ints .u8 32 t))).run Tryz.prog w = .ok (.value (.agg (uvC s l (.slice ob nb cb) t))) w := by
 unfold upB4;rw [Sem.run_bind, zq1l]
 rfl
def upB1 (x2 : Value) : Sem Next := do pure (.value (<- Instr.build 227 #[(2, x2)]))
@[go_sem ↓ high] theorem zrng (ρ : Operand -> Value) (dd : Option Tmp) (x2 : Operand) (t : TypeId) (pos : String) (af : Array Edge) (gg : Option (Nat × Bool)) :
  execOp ρ ⟨dd, .build 227 #[(2, x2)], t, pos, af, gg⟩ = upB1 (ρ x2) := by simp [execOp, upB1]
@[go_sem high] theorem zrlu (ρ : Operand -> Value) (dd : Option Tmp) (x2 : Operand) (t : TypeId) (pos : String) (af : Array Edge) (gg : Option (Nat × Bool)) :
  execOp ρ ⟨dd, .build 227 #[(2, x2)], t, pos, af, gg⟩ = upB1 (ρ x2) := by simp [execOp, upB1]
theorem zq23 (ob : Option Addr) (nb cb : Nat) (w : World) : (Instr.build 227 #[(2, .slice ob nb cb)]).run Tryz.prog w = .ok (.agg (uvC 0 0 (.slice ob nb cb) zqg)) w := by kernel_rfl
@[go_sem] theorem zrla (ob : Option Addr) (nb cb : Nat) (w : World) : (upB1 (.slice ob nb cb)).run Tryz.prog w = .ok (.value (.agg (uvC 0 0 (.slice ob nb cb) zqg))) w := by
 unfold upB1;rw [Sem.run_bind, zq23]
 rfl
attribute [irreducible] uvC upB4 upB1
end Go.Proofs.YtnjghcnhcbobhaaGreatDoor
namespace Go.Proofs.YtnjghcnhcbobhaaGreatDoor
open Go.RowKit Go.Extern
def twoT (B : ByteArray) (t : Nat -> Int) : Nat -> ByteArray
 | 0 => B
 | _ => zqcg (fun _ => t) 1
end Go.Proofs.YtnjghcnhcbobhaaGreatDoor
namespace Go.Proofs.YtnjghcnhcbobhaaGreatDoor
open Go.RowKit Go.Extern
open Classical in
noncomputable def dupN (N : Nat -> Int) (n : Nat) : Int := if Twice N n then 15 else 0
theorem zqvu {N : Nat -> Int} {n : Nat} (h : Twice N n) : dupN N n = 15 := if_pos h
theorem zql1 {N : Nat -> Int} {n : Nat} (h : ¬ Twice N n) : dupN N n = 0 := if_neg h
noncomputable def chkE (n : Nat) (N : Nat -> Int) (m : Nat) : Int := if n < 2 \/ 1024 < n then 4 else if dupN N n = 15 then 15 else if m ≠ 2 * n - 2 then 6 else 0
def sF (n : Nat) (N I f : Nat -> Int) (m : Nat) (P : Nat -> Nat -> Int) (t : Nat -> Int) : Nat -> ByteArray
 | 0 => numB 1 1
 | 1 => numB 1 2
 | 2 => numB 2 (n : Int)
 | j + 3 => if j < 2 * n then (if j % 2 = 0 then numB 4 (N (j / 2)) else numB 4 (I (j / 2))) else if j = 2 * n then zqcg (fun _ => f) 1 else if j = 2 * n + 1 then zqcg P m else zqcg (fun _ => t) 1
section
variable (n : Nat) (N I f : Nat -> Int) (m : Nat) (P : Nat -> Nat -> Int) (t : Nat -> Int)
theorem zqsu (k : Nat) (h : k < n) : sF n N I f m P t (3 + 2 * k) = numB 4 (N k) := by
 rw [show 3 + 2 * k = 2 * k + 3 by omega]
 show (if 2 * k < 2 * n then _ else _) = _
 rw [if_pos (by omega), if_pos (by omega), show 2 * k / 2 = k by omega]
theorem zq0y (k : Nat) (h : k < n) : sF n N I f m P t (3 + 2 * k + 1) = numB 4 (I k) := by
 rw [show 3 + 2 * k + 1 = (2 * k + 1) + 3 by omega]
 show (if 2 * k + 1 < 2 * n then _ else _) = _
 rw [if_pos (by omega), if_neg (by omega), show (2 * k + 1) / 2 = k by omega]
theorem sF_f : sF n N I f m P t (3 + 2 * n) = zqcg (fun _ => f) 1 := by
 rw [show 3 + 2 * n = 2 * n + 3 by omega]
 show (if 2 * n < 2 * n then _ else _) = _
 rw [if_neg (by omega), if_pos rfl]
theorem sF_p : sF n N I f m P t (3 + 2 * n + 1) = zqcg P m := by
 rw [show 3 + 2 * n + 1 = (2 * n + 1) + 3 by omega]
 show (if 2 * n + 1 < 2 * n then _ else _) = _
 rw [if_neg (by omega), if_neg (by omega), if_pos rfl]
theorem sF_t : sF n N I f m P t (3 + 2 * n + 2) = zqcg (fun _ => t) 1 := by
 rw [show 3 + 2 * n + 2 = (2 * n + 2) + 3 by omega]
 show (if 2 * n + 2 < 2 * n then _ else _) = _
 rw [if_neg (by omega), if_neg (by omega), if_neg (by omega)]
theorem zrh4 (k : Nat) (h : k < n) : revL (sF n N I f m P t) (3 + 2 * (k + 1)) = numB 4 (I k) :: numB 4 (N k) :: revL (sF n N I f m P t) (3 + 2 * k) := by
 rw [show 3 + 2 * (k + 1) = 3 + 2 * k + 1 + 1 by omega]
 show sF n N I f m P t (3 + 2 * k + 1) :: sF n N I f m P t (3 + 2 * k) :: _ = _
 rw [zq0y n N I f m P t k h, zqsu n N I f m P t k h]
theorem zq5s : revL (sF n N I f m P t) (3 + 2 * 0) = [numB 2 (n : Int), numB 1 2, numB 1 1] := rfl
theorem zrdw : revL (sF n N I f m P t) (3 + 2 * n + 2) = zqcg P m :: zqcg (fun _ => f) 1 :: revL (sF n N I f m P t) (3 + 2 * n) := by
 show sF n N I f m P t (3 + 2 * n + 1) :: sF n N I f m P t (3 + 2 * n) :: _ = _
 rw [sF_p, sF_f]
theorem zqsf : ∀ k, k <= n -> (catS (sF n N I f m P t) (3 + 2 * k)).size = 4 + 8 * k
 | 0, _ => by
  show (ByteArray.empty ++ numB 1 1 ++ numB 1 2 ++ numB 2 (n : Int)).size = _
  simp only [ByteArray.size_append, zqco, zq83]
 | k + 1, h => by
  rw [show 3 + 2 * (k + 1) = 3 + 2 * k + 1 + 1 by omega]
  show (catS (sF n N I f m P t) (3 + 2 * k) ++ sF n N I f m P t (3 + 2 * k) ++ sF n N I f m P t (3 + 2 * k + 1)).size = _
  rw [ByteArray.size_append, ByteArray.size_append, zqsf k (by omega), zq0y n N I f m P t k (by omega), zqsu n N I f m P t k (by omega), zqco, zqco]
  omega
theorem zq55 : (catS (sF n N I f m P t) (3 + 2 * n + 1)).size = 36 + 8 * n := by
 show (catS (sF n N I f m P t) (3 + 2 * n) ++ sF n N I f m P t (3 + 2 * n)).size = _
 rw [ByteArray.size_append, zqsf n N I f m P t n (Nat.le_refl _), sF_f, zqcz]
 omega
theorem zqkx : (catS (sF n N I f m P t) (3 + 2 * n + 2)).size = 36 + 8 * n + 32 * m := by
 show (catS (sF n N I f m P t) (3 + 2 * n + 1) ++ sF n N I f m P t (3 + 2 * n + 1)).size = _
 rw [ByteArray.size_append, zq55, sF_p, zqcz]
def sB : ByteArray := catS (sF n N I f m P t) (3 + 2 * n + 3)
theorem zq0t : sB n N I f m P t = catS (sF n N I f m P t) (3 + 2 * n + 2) ++ zqcg (fun _ => t) 1 := by
 show catS (sF n N I f m P t) (3 + 2 * n + 2) ++ sF n N I f m P t (3 + 2 * n + 2) = _
 rw [sF_t]
theorem zrbg : (sB n N I f m P t).size = 68 + 8 * n + 32 * m := by
 rw [zq0t, ByteArray.size_append, zqkx, zqcz]
 omega
end
section
variable (n : Nat) (N I f : Nat -> Int) (m : Nat) (P : Nat -> Nat -> Int) (t : Nat -> Int)
end
end Go.Proofs.YtnjghcnhcbobhaaGreatDoor
namespace Go.Proofs.YtnjghcnhcbobhaaGreatDoor
open Go.RowKit Go.Lib
def seL (N I : Nat -> Int) : Nat -> List Value
 | 0 => []
 | n + 1 => seL N I n ++ [Value.int .u32 (N n), Value.int .u32 (I n)]
theorem zqpr (N I : Nat -> Int) : ∀ n, (seL N I n).length = n * 2
 | 0 => rfl
 | n + 1 => by
  show (seL N I n ++ _).length = _
  rw [List.length_append, zqpr N I n]
  simp
  omega
theorem zq2p (N I : Nat -> Int) (j i : Nat) (hi : i < 2) : ∀ n, j < n -> (seL N I n)[j * 2 + i]? = (#[Value.int .u32 (N j), Value.int .u32 (I j)] : Array Value)[i]?
 | 0, h => absurd h (Nat.not_lt_zero _)
 | n + 1, h => by
  show (seL N I n ++ _)[_]? = _
  by_cases hj : j < n
  ·rw [List.getElem?_append_left (by rw [zqpr]; omega)]
   exact zq2p N I j i hi n hj
  ·obtain rfl : j = n := by omega
   rw [List.getElem?_append_right (by rw [zqpr]; omega), zqpr, show j * 2 + i - j * 2 = i by omega]
   rcases (by omega : i = 0 \/ i = 1) with rfl | rfl <;> rfl
def SeAt (w : World) (oa : Option Addr) (n : Nat) (N I : Nat -> Int) : Prop :=
 n = 0 \/ ∃ ad : Addr, oa = some ad /\ ad.block < w.heap.size /\ ∀ j, j < n -> ∀ i, i < 2 -> w.cell? ((ad.add (j * 2)).add i) = (#[Value.int .u32 (N j), Value.int .u32 (I j)] : Array Value)[i]?
theorem SeAt.kept {B : Nat} {w' : World} {w : World} {oa : Option Addr} {n : Nat} {N I : Nat -> Int} (h : SeAt w oa n N I) (hb : Below B w w') (hB : ∀ ad, oa = some ad -> ad.block < B) : SeAt w' oa n N I := by
 rcases h with h | ⟨ad, ho, hl, hc⟩
 ·exact .inl h
 ·have hlt := hB ad ho
  refine .inr ⟨ad, ho, Nat.lt_of_lt_of_le hl hb.size, fun j hj i hi => ?_⟩;rw [hb.cell (by rw [zqfc, zqfc]; exact hlt)];exact hc j hj i hi
theorem SeAt.blk {w : World} {oa : Option Addr} {n : Nat} {N I : Nat -> Int} (h : SeAt w oa n N I) (hn : 0 < n) : ∃ ad, oa = some ad /\ ad.block < w.heap.size := by
 rcases h with h | ⟨ad, ho, hl, _⟩
 ·omega
 ·exact ⟨ad, ho, hl⟩
theorem SeAt.later {w' : World} {w : World} {oa : Option Addr} {n : Nat} {N I : Nat -> Int} (h : SeAt w oa n N I) (hb : Below w.heap.size w w') : SeAt w' oa n N I := by
 have h0 := h
 rcases h with h | ⟨ad, ho, hl, hc⟩
 ·exact .inl h
 ·exact h0.kept hb fun ad' e => by cases ho.symm.trans e; exact hl
theorem SeAt.name {w : World} {ad : Addr} {n : Nat} {N I : Nat -> Int} (h : SeAt w (some ad) n N I) {j : Nat} (hj : j < n) : w.cell? (ad.add (j * 2)) = some (.int .u32 (N j)) := by
 rcases h with h | ⟨ad', ho, hl, hc⟩
 ·omega
 ·cases ho
  exact hc j hj 0 (by decide)
theorem SeAt.aside {w : World} {oa : Option Addr} {n : Nat} {N I : Nat -> Int} (h : SeAt w oa n N I) (g : Nat) (hne : ∀ ad, oa = some ad -> ad.block ≠ g) (cs : Array Value) : SeAt (w.setRow g cs) oa n N I := by
 rcases h with h | ⟨ad, ho, hl, hc⟩
 ·exact .inl h
 ·refine .inr ⟨ad, ho, by rw [zq2]; exact hl, fun j hj i hi => ?_⟩
  rw [zqi8 _ _ _ _ (by rw [zqfc, zqfc]; exact hne ad ho)];exact hc j hj i hi
theorem SeAt.nil (w : World) (oa : Option Addr) (N I : Nat -> Int) : SeAt w oa 0 N I := .inl rfl
theorem SeAt.congr {w : World} {oa : Option Addr} {n : Nat} {N I : Nat -> Int} {M J : Nat -> Int} (h : SeAt w oa n N I) (hN : ∀ j, j < n -> N j = M j) (hI : ∀ j, j < n -> I j = J j) : SeAt w oa n M J := by
 rcases h with h0 | ⟨ad, ho, hl, hc⟩
 ·exact .inl h0
 ·exact .inr ⟨ad, ho, hl, fun j hj i hi => by rw [hc j hj i hi, hN j hj, hI j hj]⟩
theorem zqzp {w : World} {base n : Nat} {v : Value} {N I : Nat -> Int} {t : TypeId} (h : w.ownsRow base t 2 v n (seL N I n)) : ∃ oa c, v = .slice oa n c /\ n <= c /\ SeAt w oa n N I /\ (∀ ad, oa = some ad -> base <= ad.block /\ ad.block < w.heap.size) := by
 rcases h.2 with ⟨rfl, h0⟩ | ⟨g, cap, cur, rfl, hb, hg, hnc, hcm, hcs, htake⟩
 ·subst h0
  exact ⟨none, 0, rfl, Nat.le_refl _, .inl rfl, fun ad e => by cases e⟩
 ·refine ⟨_, _, rfl, hnc, .inr ⟨_, rfl, zqa hg, fun j hj i hi => ?_⟩, fun ad e => by cases e; exact ⟨hb, zqa hg⟩⟩
  have e1 : ((⟨g, 0, none⟩ : Addr).add (j * 2)).add i = ⟨g, j * 2 + i, none⟩ := by
   rw [Go.Deep.add_add];unfold Addr.add
   split <;> simp_all
  rw [e1, cell_of_row w g (j * 2 + i) _ _ _ hg, <- zq2p N I j i hi n hj, <- htake, List.getElem?_take, if_pos (by omega), Array.getElem?_toList]
theorem SeAt.load_se {w : World} {ad : Addr} {n : Nat} {N I : Nat -> Int} (h : SeAt w (some ad) n N I) {j : Nat} (hj : j < n) : (zqq 63 (.pointer (some (ad.add (j * 2))))).run Tryz.prog w = .ok (.value (.agg #[Value.int .u32 (N j), Value.int .u32 (I j)])) w := by
 rcases h with h | ⟨ad', ho, hl, hc⟩
 ·omega
 ·cases ho
  exact zqcw Tryz.underlying63 rfl zqc w _ _ rfl (hc j hj)
@[go_sem ↓ high] theorem load_se (ρ : Operand -> Value) (d : Option Tmp) (x : Operand) (t : TypeId) (pos : String) (af : Array Edge) (g : Option (Nat × Bool)) :
  execOp ρ ⟨d, .load 63 x, t, pos, af, g⟩ = zqq 63 (ρ x) := zqax _ ρ d x t pos af g
@[go_sem high] theorem zrlt (ρ : Operand -> Value) (d : Option Tmp) (x : Operand) (t : TypeId) (pos : String) (af : Array Edge) (g : Option (Nat × Bool)) :
  execOp ρ ⟨d, .load 63 x, t, pos, af, g⟩ = zqq 63 (ρ x) := zqax _ ρ d x t pos af g
@[go_sem] theorem zre7 (g : Nat) (w : World) : (zqq 63 (.pointer (some ⟨g, 0, none⟩))).run Tryz.prog w = (zqau Tryz.prog 63 g 2 w (zqd w g)).andThen fun v w' => .ok (.value v) w' := by
 rw [zq7, zqa6 Tryz.underlying63 rfl zqc g w]
@[go_sem] theorem zre8 (g : Nat) (w : World) (cs : Array Value) (t' : TypeId) (fr : Nat × Nat) (h : cs.size = 2) : zqau Tryz.prog 63 g 2 w (some (.cells cs t' fr)) = .ok (.agg cs) w := zqal cs t' fr h
theorem zq0d (a b : Int) (W : World) : (Instr.buildSlice 42 1 #[(0, .agg #[.int .u32 a, .int .u32 b])]).run Tryz.prog W = .ok (.slice (some ⟨W.heap.size, 0, none⟩) 1 1) (W.alloc (.cells #[.int .u32 a, .int .u32 b] 63)) := by kernel_rfl
def seB1 (v : Value) : Sem Next := do pure (.value (<- Instr.buildSlice 42 1 #[(0, v)]))
@[go_sem ↓ high] theorem zrb1 (ρ : Operand -> Value) (d : Option Tmp) (x : Operand) (t : TypeId) (pos : String) (af : Array Edge) (g : Option (Nat × Bool)) :
  execOp ρ ⟨d, .buildSlice 42 1 #[(0, x)], t, pos, af, g⟩ = seB1 (ρ x) := by
 unfold execOp seB1
 simp
@[go_sem high] theorem zrk4 (ρ : Operand -> Value) (d : Option Tmp) (x : Operand) (t : TypeId) (pos : String) (af : Array Edge) (g : Option (Nat × Bool)) :
  execOp ρ ⟨d, .buildSlice 42 1 #[(0, x)], t, pos, af, g⟩ = seB1 (ρ x) := zrb1 ρ d x t pos af g
@[go_sem] theorem zrj9 (a b : Int) (W : World) : (seB1 (.agg #[.int .u32 a, .int .u32 b])).run Tryz.prog W = .ok (.value (.slice (some ⟨W.heap.size, 0, none⟩) 1 1)) (W.alloc (.cells #[.int .u32 a, .int .u32 b] 63)) := by
 unfold seB1
 simp only [Sem.run_bind, zq0d, Result.andThen_ok, Sem.run_pure]
@[go_sem ↓ high] theorem zrge (ty : TypeId) (cs : Array Bool) (args : Array Value) : builtin .append #[42, 42] ty cs args = zqt #[42, 42] ty args := by unfold zqt; rfl
theorem SeAt.load_rse {w : World} {ad : Addr} {n : Nat} {N I : Nat -> Int} (h : SeAt w (some ad) n N I) {j : Nat} (hj : j < n) : (zqq 119 (.pointer (some (ad.add (j * 2))))).run Tryz.prog w = .ok (.value (.agg #[Value.int .u32 (N j), Value.int .u32 (I j)])) w := by
 rcases h with h | ⟨ad', ho, hl, hc⟩
 ·omega
 ·cases ho
  exact zqcw Tryz.underlying119 rfl zqc w _ _ rfl (hc j hj)
@[go_sem ↓ high] theorem load_rse (ρ : Operand -> Value) (d : Option Tmp) (x : Operand) (t : TypeId) (pos : String) (af : Array Edge) (g : Option (Nat × Bool)) :
  execOp ρ ⟨d, .load 119 x, t, pos, af, g⟩ = zqq 119 (ρ x) := zqax _ ρ d x t pos af g
@[go_sem high] theorem zrh8 (ρ : Operand -> Value) (d : Option Tmp) (x : Operand) (t : TypeId) (pos : String) (af : Array Edge) (g : Option (Nat × Bool)) :
  execOp ρ ⟨d, .load 119 x, t, pos, af, g⟩ = zqq 119 (ρ x) := zqax _ ρ d x t pos af g
@[go_sem] theorem zrcc (g : Nat) (w : World) : (zqq 119 (.pointer (some ⟨g, 0, none⟩))).run Tryz.prog w = (zqau Tryz.prog 119 g 2 w (zqd w g)).andThen fun v w' => .ok (.value v) w' := by
 rw [zq7, zqa6 Tryz.underlying119 rfl zqc g w]
@[go_sem] theorem zrb2 (g : Nat) (w : World) (cs : Array Value) (t' : TypeId) (fr : Nat × Nat) (h : cs.size = 2) : zqau Tryz.prog 119 g 2 w (some (.cells cs t' fr)) = .ok (.agg cs) w := zqal cs t' fr h
theorem zqyb (a b : Int) (W : World) : (Instr.buildSlice 50 1 #[(0, .agg #[.int .u32 a, .int .u32 b])]).run Tryz.prog W = .ok (.slice (some ⟨W.heap.size, 0, none⟩) 1 1) (W.alloc (.cells #[.int .u32 a, .int .u32 b] 119)) := by kernel_rfl
def zqyq (v : Value) : Sem Next := do pure (.value (<- Instr.buildSlice 50 1 #[(0, v)]))
@[go_sem ↓ high] theorem zq47 (ρ : Operand -> Value) (d : Option Tmp) (x : Operand) (t : TypeId) (pos : String) (af : Array Edge) (g : Option (Nat × Bool)) :
  execOp ρ ⟨d, .buildSlice 50 1 #[(0, x)], t, pos, af, g⟩ = zqyq (ρ x) := by
 unfold execOp zqyq
 simp
@[go_sem high] theorem zric (ρ : Operand -> Value) (d : Option Tmp) (x : Operand) (t : TypeId) (pos : String) (af : Array Edge) (g : Option (Nat × Bool)) :
  execOp ρ ⟨d, .buildSlice 50 1 #[(0, x)], t, pos, af, g⟩ = zqyq (ρ x) := zq47 ρ d x t pos af g
@[go_sem] theorem zrja (a b : Int) (W : World) : (zqyq (.agg #[.int .u32 a, .int .u32 b])).run Tryz.prog W = .ok (.value (.slice (some ⟨W.heap.size, 0, none⟩) 1 1)) (W.alloc (.cells #[.int .u32 a, .int .u32 b] 119)) := by
 unfold zqyq
 simp only [Sem.run_bind, zqyb, Result.andThen_ok, Sem.run_pure]
@[go_sem ↓ high] theorem zrb9 (ty : TypeId) (cs : Array Bool) (args : Array Value) : builtin .append #[50, 50] ty cs args = zqt #[50, 50] ty args := by unfold zqt; rfl
theorem zqt0 (W : World) (base : Nat) (v : Value) (n : Nat) (N I : Nat -> Int) (g2 : Nat) (t2 : TypeId) (fr : Nat × Nat) (own : W.ownsRow base 119 2 v n (seL N I n)) (hn : n <= 1048576)
  (hg2 : zqd W g2 = some (.cells #[Value.int .u32 (N n), Value.int .u32 (I n)] t2 fr)) (hbW : base <= W.heap.size) :
  ∃ g cap w', (zqt #[50, 50] 50 #[v, .slice (some ⟨g2, 0, none⟩) 1 1]).run Tryz.prog W = .ok (.value (.slice (some ⟨g, 0, none⟩) (n + 1) cap)) w' /\ w'.ownsRow base 119 2 (.slice (some ⟨g, 0, none⟩) (n + 1) cap) (n + 1) (seL N I (n + 1)) /\ W.grownBy w' v.ownBlock := by
 obtain ⟨g, cap, w', hr, ho, hg, _, _⟩ := run_append_lies (P := Tryz.prog) W 50 50 base 119 ((Tryz.prog.info? 119).get zqc) (((Tryz.prog.info? 119).get zqc).zero.get zqc) 2 8 Tryz.underlying50 zqc zqc zqc zqc zqc (by decide) v n (seL N I n) own ⟨g2, 0, none⟩ 1 1 [Value.int .u32 (N n), Value.int .u32 (I n)] rfl
  (fun j u hu => by
   have hadd : (⟨g2, 0, none⟩ : Addr).add j = ⟨g2, j, none⟩ := by unfold Addr.add; split <;> simp_all
   rw [hadd, cell_of_row W g2 j _ _ _ hg2, <- hu, <- Array.getElem?_toList])
  (fun u hu => by
   simp only [List.mem_cons, List.not_mem_nil, or_false] at hu
   rcases hu with rfl | rfl <;> rfl) (by decide) (by unfold maxLen; omega) (by omega) hbW W.heap.size rfl
 exact ⟨g, cap, w', by unfold zqt; simp only [Sem.run_bind, hr, Result.andThen_ok, Sem.run_pure], ho, hg⟩
attribute [irreducible] seB1 zqyq
end Go.Proofs.YtnjghcnhcbobhaaGreatDoor
namespace Go.Proofs.YtnjghcnhcbobhaaGreatDoor
open Go.RowKit Go.Lib
def stC (a : Value) (f : Nat -> Int) (b : Value) (t : Nat -> Int) : Array Value := (#[a] : Array Value) ++ ints .u8 32 f ++ (#[b] : Array Value) ++ ints .u8 32 t
@[go_sem] theorem zqec (a : Value) (f : Nat -> Int) (b : Value) (t : Nat -> Int) : (stC a f b t).size = 66 := by kernel_rfl
@[go_sem] theorem zrm2 (oa : Option Addr) (na ca : Nat) (ob : Option Addr) (nb cb : Nat) (f : Nat -> Int) (t : Nat -> Int) : zqak (stC (.slice oa na ca) f (.slice ob nb cb) t) = true := by kernel_rfl
theorem zq5v (oa : Option Addr) (na ca : Nat) (ob : Option Addr) (nb cb : Nat) (f : Nat -> Int) (t : Nat -> Int) : (stC (.slice oa na ca) f (.slice ob nb cb) t).all (·.oneCell') = true := by kernel_rfl
@[go_sem] theorem zrhi (a : Value) (f : Nat -> Int) (b : Value) (t : Nat -> Int) : (stC a f b t)[0]? = some (a) := by kernel_rfl
@[go_sem] theorem zrod (a : Value) (f : Nat -> Int) (b : Value) (t : Nat -> Int) (h : 0 < (stC a f b t).size) : (stC a f b t)[0] = a := Option.some.inj ((Array.getElem?_eq_getElem h).symm.trans (zrhi a f b t))
@[go_sem] theorem zrj6 (a : Value) (f : Nat -> Int) (b : Value) (t : Nat -> Int) (a9 : Value) : (stC a f b t).setIfInBounds 0 (a9) = stC a9 f b t := by kernel_rfl
theorem zqux (a : Value) (f : Nat -> Int) (b : Value) (t : Nat -> Int) : (stC a f b t).extract 1 (1 + 32) = ints .u8 32 f := by kernel_rfl
theorem zq5q (a : Value) (f : Nat -> Int) (b : Value) (t : Nat -> Int) (f9 : Nat -> Int) : zqb6 (stC a f b t) 1 (ints .u8 32 f9).toList = stC a f9 b t := by kernel_rfl
@[go_sem] theorem zq8l (a : Value) (f : Nat -> Int) (b : Value) (t : Nat -> Int) : (stC a f b t)[33]? = some (b) := by kernel_rfl
@[go_sem] theorem zrmi (a : Value) (f : Nat -> Int) (b : Value) (t : Nat -> Int) (h : 33 < (stC a f b t).size) : (stC a f b t)[33] = b := Option.some.inj ((Array.getElem?_eq_getElem h).symm.trans (zq8l a f b t))
@[go_sem] theorem zrgq (a : Value) (f : Nat -> Int) (b : Value) (t : Nat -> Int) (b9 : Value) : (stC a f b t).setIfInBounds 33 (b9) = stC a f b9 t := by kernel_rfl
theorem zqqr (a : Value) (f : Nat -> Int) (b : Value) (t : Nat -> Int) : (stC a f b t).extract 34 (34 + 32) = ints .u8 32 t := by kernel_rfl
theorem zq2l (a : Value) (f : Nat -> Int) (b : Value) (t : Nat -> Int) (t9 : Nat -> Int) : zqb6 (stC a f b t) 34 (ints .u8 32 t9).toList = stC a f b t9 := by kernel_rfl
@[go_sem ↓ high] theorem zrfo (ρ : Operand -> Value) (d : Option Tmp) (x : Operand) (t : TypeId) (pos : String) (af : Array Edge) (g : Option (Nat × Bool)) :
  execOp ρ ⟨d, .load 47 x, t, pos, af, g⟩ = zqq 47 (ρ x) := zqax _ ρ d x t pos af g
@[go_sem high] theorem zrep (ρ : Operand -> Value) (d : Option Tmp) (x : Operand) (t : TypeId) (pos : String) (af : Array Edge) (g : Option (Nat × Bool)) :
  execOp ρ ⟨d, .load 47 x, t, pos, af, g⟩ = zqq 47 (ρ x) := zqax _ ρ d x t pos af g
@[go_sem] theorem zq5g (g : Nat) (w : World) : (zqq 47 (.pointer (some ⟨g, 0, none⟩))).run Tryz.prog w = (zqau Tryz.prog 47 g 66 w (zqd w g)).andThen fun v w' => .ok (.value v) w' := by
 rw [zq7, zqa6 Tryz.underlying47 rfl zqc g w]
@[go_sem] theorem zq4i (g : Nat) (w : World) (cs : Array Value) (t' : TypeId) (fr : Nat × Nat) (h : cs.size = 66) : zqau Tryz.prog 47 g 66 w (some (.cells cs t' fr)) = .ok (.agg cs) w := zqal cs t' fr h
@[go_sem ↓ high] theorem zrba (ρ : Operand -> Value) (d : Option Tmp) (x y : Operand) (t : TypeId) (pos : String) (af : Array Edge) (g : Option (Nat × Bool)) :
  execOp ρ ⟨d, .store 47 x y, t, pos, af, g⟩ = zqu 47 (ρ x) (ρ y) := zqat _ ρ d x y t pos af g
@[go_sem high] theorem zq9p (ρ : Operand -> Value) (d : Option Tmp) (x y : Operand) (t : TypeId) (pos : String) (af : Array Edge) (g : Option (Nat × Bool)) :
  execOp ρ ⟨d, .store 47 x y, t, pos, af, g⟩ = zqu 47 (ρ x) (ρ y) := zqat _ ρ d x y t pos af g
@[go_sem] theorem zq3k (g : Nat) (cs : Array Value) (w : World) : (zqu 47 (.pointer (some ⟨g, 0, none⟩)) (.agg cs)).run Tryz.prog w = (zqam Tryz.prog 47 g 66 (.agg cs) w (zqd w g)).andThen fun _ w' => .ok .skip w' := by
 rw [zqae, zqbb zqc g cs w]
@[go_sem] theorem zq3m (g : Nat) (w : World) (old cs : Array Value) (t' : TypeId) (h1 : old.size = 66) (h2 : cs.size = 66) (h3 : zqak cs = true) :
  zqam Tryz.prog 47 g 66 (.agg cs) w (some (.cells old t' (0, 0))) = .ok () (w.setRow g cs) := zqar old cs t' h1 h2 h3
@[go_sem high] theorem zrb0 (w : World) : (zeroValue 47).run Tryz.prog w = .ok (.agg (stC (.slice none 0 0) zqg (.slice none 0 0) zqg)) w := by kernel_rfl
@[go_sem ↓ high] theorem zrgc (w : World) : (zeroValue 47).run Tryz.prog w = .ok (.agg (stC (.slice none 0 0) zqg (.slice none 0 0) zqg)) w := by kernel_rfl
@[go_sem] theorem zrgh (w : World) : (zqb8 47).run Tryz.prog w = .ok (.value (.agg (stC (.slice none 0 0) zqg (.slice none 0 0) zqg))) w := by kernel_rfl
@[go_sem ↓ high] theorem zri2 (ρ : Operand -> Value) (d : Option Tmp) (x : Operand) (t : TypeId) (pos : String) (af : Array Edge) (g : Option (Nat × Bool)) :
  execOp ρ ⟨d, .load 53 x, t, pos, af, g⟩ = zqq 53 (ρ x) := zqax _ ρ d x t pos af g
@[go_sem high] theorem zre6 (ρ : Operand -> Value) (d : Option Tmp) (x : Operand) (t : TypeId) (pos : String) (af : Array Edge) (g : Option (Nat × Bool)) :
  execOp ρ ⟨d, .load 53 x, t, pos, af, g⟩ = zqq 53 (ρ x) := zqax _ ρ d x t pos af g
@[go_sem] theorem zq73 (g : Nat) (w : World) : (zqq 53 (.pointer (some ⟨g, 0, none⟩))).run Tryz.prog w = (zqau Tryz.prog 53 g 66 w (zqd w g)).andThen fun v w' => .ok (.value v) w' := by
 rw [zq7, zqa6 Tryz.underlying53 rfl zqc g w]
@[go_sem] theorem zq8g (g : Nat) (w : World) (cs : Array Value) (t' : TypeId) (fr : Nat × Nat) (h : cs.size = 66) : zqau Tryz.prog 53 g 66 w (some (.cells cs t' fr)) = .ok (.agg cs) w := zqal cs t' fr h
@[go_sem ↓ high] theorem zrf1 (ρ : Operand -> Value) (d : Option Tmp) (x y : Operand) (t : TypeId) (pos : String) (af : Array Edge) (g : Option (Nat × Bool)) :
  execOp ρ ⟨d, .store 53 x y, t, pos, af, g⟩ = zqu 53 (ρ x) (ρ y) := zqat _ ρ d x y t pos af g
@[go_sem high] theorem zrej (ρ : Operand -> Value) (d : Option Tmp) (x y : Operand) (t : TypeId) (pos : String) (af : Array Edge) (g : Option (Nat × Bool)) :
  execOp ρ ⟨d, .store 53 x y, t, pos, af, g⟩ = zqu 53 (ρ x) (ρ y) := zqat _ ρ d x y t pos af g
@[go_sem] theorem zq43 (g : Nat) (cs : Array Value) (w : World) : (zqu 53 (.pointer (some ⟨g, 0, none⟩)) (.agg cs)).run Tryz.prog w = (zqam Tryz.prog 53 g 66 (.agg cs) w (zqd w g)).andThen fun _ w' => .ok .skip w' := by
 rw [zqae, zqbb zqc g cs w]
@[go_sem] theorem zq41 (g : Nat) (w : World) (old cs : Array Value) (t' : TypeId) (h1 : old.size = 66) (h2 : cs.size = 66) (h3 : zqak cs = true) :
  zqam Tryz.prog 53 g 66 (.agg cs) w (some (.cells old t' (0, 0))) = .ok () (w.setRow g cs) := zqar old cs t' h1 h2 h3
@[go_sem high] theorem zrfz (w : World) : (zeroValue 53).run Tryz.prog w = .ok (.agg (stC (.slice none 0 0) zqg (.slice none 0 0) zqg)) w := by kernel_rfl
@[go_sem ↓ high] theorem zq3i (w : World) : (zeroValue 53).run Tryz.prog w = .ok (.agg (stC (.slice none 0 0) zqg (.slice none 0 0) zqg)) w := by kernel_rfl
@[go_sem] theorem zrg6 (w : World) : (zqb8 53).run Tryz.prog w = .ok (.value (.agg (stC (.slice none 0 0) zqg (.slice none 0 0) zqg))) w := by kernel_rfl
@[go_sem] theorem zrd7 (g : Nat) (w : World) : (zqq 44 (.pointer (some ⟨g, 34, none⟩))).run Tryz.prog w = (zqbf Tryz.prog 44 g 34 32 w (zqd w g)).andThen fun v w' => .ok (.value v) w' := by
 rw [zq7, zqdd Tryz.underlying44 rfl zqc g 34 w]
@[go_sem] theorem zq32 (g : Nat) (w : World) (a : Value) (f : Nat -> Int) (b : Value) (t : Nat -> Int) (t' : TypeId) (fr : Nat × Nat) : zqbf Tryz.prog 44 g 1 32 w (some (.cells (stC a f b t) t' fr)) = .ok (.agg (ints .u8 32 f)) w := by
 unfold zqbf
 simp only [zqec]
 rw [if_pos (by decide), zqux]
@[go_sem] theorem zq3o (g : Nat) (w : World) (a : Value) (f : Nat -> Int) (b : Value) (t : Nat -> Int) (t' : TypeId) (fr : Nat × Nat) : zqbf Tryz.prog 44 g 34 32 w (some (.cells (stC a f b t) t' fr)) = .ok (.agg (ints .u8 32 t)) w := by
 unfold zqbf
 simp only [zqec]
 rw [if_pos (by decide), zqqr]
@[go_sem] theorem zrfy (g : Nat) (w : World) : (zqq 43 (.pointer (some ⟨g, 1, none⟩))).run Tryz.prog w = (zqbf Tryz.prog 43 g 1 32 w (zqd w g)).andThen fun v w' => .ok (.value v) w' := by
 rw [zq7, zqdd Tryz.underlying43 rfl zqc g 1 w]
@[go_sem] theorem zrdz (g : Nat) (cs : Array Value) (w : World) : (zqu 43 (.pointer (some ⟨g, 1, none⟩)) (.agg cs)).run Tryz.prog w = (zqby Tryz.prog 43 g 1 32 (.agg cs) w (zqd w g)).andThen fun _ w' => .ok .skip w' := by
 rw [zqae, zqdt zqc g 1 cs w]
@[go_sem] theorem zrdk (g : Nat) (w : World) : (zqq 43 (.pointer (some ⟨g, 34, none⟩))).run Tryz.prog w = (zqbf Tryz.prog 43 g 34 32 w (zqd w g)).andThen fun v w' => .ok (.value v) w' := by
 rw [zq7, zqdd Tryz.underlying43 rfl zqc g 34 w]
@[go_sem] theorem zq8z (g : Nat) (cs : Array Value) (w : World) : (zqu 43 (.pointer (some ⟨g, 34, none⟩)) (.agg cs)).run Tryz.prog w = (zqby Tryz.prog 43 g 34 32 (.agg cs) w (zqd w g)).andThen fun _ w' => .ok .skip w' := by
 rw [zqae, zqdt zqc g 34 cs w]
@[go_sem] theorem zq4t (g : Nat) (w : World) (a : Value) (f : Nat -> Int) (b : Value) (t : Nat -> Int) (t' : TypeId) (fr : Nat × Nat) : zqbf Tryz.prog 43 g 1 32 w (some (.cells (stC a f b t) t' fr)) = .ok (.agg (ints .u8 32 f)) w := by
 unfold zqbf
 simp only [zqec]
 rw [if_pos (by decide), zqux]
@[go_sem] theorem zq3r (g : Nat) (w : World) (a : Value) (f : Nat -> Int) (b : Value) (t : Nat -> Int) (f9 : Nat -> Int) (t' : TypeId) : zqby Tryz.prog 43 g 1 32 (.agg (ints .u8 32 f9)) w (some (.cells (stC a f b t) t' (0, 0))) = .ok () (w.setRow g (stC a f9 b t)) := by
 unfold zqby
 simp only [zqj, zqec]
 rw [if_pos ⟨by decide, by trivial, zqdf _ _ _⟩, zq5q]
@[go_sem] theorem zq3x (g : Nat) (w : World) (a : Value) (f : Nat -> Int) (b : Value) (t : Nat -> Int) (t' : TypeId) (fr : Nat × Nat) : zqbf Tryz.prog 43 g 34 32 w (some (.cells (stC a f b t) t' fr)) = .ok (.agg (ints .u8 32 t)) w := by
 unfold zqbf
 simp only [zqec]
 rw [if_pos (by decide), zqqr]
@[go_sem] theorem zqzy (g : Nat) (w : World) (a : Value) (f : Nat -> Int) (b : Value) (t : Nat -> Int) (t9 : Nat -> Int) (t' : TypeId) : zqby Tryz.prog 43 g 34 32 (.agg (ints .u8 32 t9)) w (some (.cells (stC a f b t) t' (0, 0))) = .ok () (w.setRow g (stC a f b t9)) := by
 unfold zqby
 simp only [zqj, zqec]
 rw [if_pos ⟨by decide, by trivial, zqdf _ _ _⟩, zq2l]
def stB4 (x0 : Value) (x1 : Value) (x2 : Value) (x3 : Value) : Sem Next := do pure (.value (<- Instr.build 47 #[(0, x0), (1, x1), (2, x2), (3, x3)]))
@[go_sem ↓ high] theorem zrnh (ρ : Operand -> Value) (dd : Option Tmp) (x0 x1 x2 x3 : Operand) (t : TypeId) (pos : String) (af : Array Edge) (gg : Option (Nat × Bool)) :
  execOp ρ ⟨dd, .build 47 #[(0, x0), (1, x1), (2, x2), (3, x3)], t, pos, af, gg⟩ = stB4 (ρ x0) (ρ x1) (ρ x2) (ρ x3) := by simp [execOp, stB4]
@[go_sem high] theorem zrkl (ρ : Operand -> Value) (dd : Option Tmp) (x0 x1 x2 x3 : Operand) (t : TypeId) (pos : String) (af : Array Edge) (gg : Option (Nat × Bool)) :
  execOp ρ ⟨dd, .build 47 #[(0, x0), (1, x1), (2, x2), (3, x3)], t, pos, af, gg⟩ = stB4 (ρ x0) (ρ x1) (ρ x2) (ρ x3) := by simp [execOp, stB4]
theorem zq1u (oa : Option Addr) (na ca : Nat) (f : Nat -> Int) (ob : Option Addr) (nb cb : Nat) (t : Nat -> Int) (w : World) : (Instr.build 47 #[(0, .slice oa na ca), (1, .agg (ints .u8 32 f)), (2, .slice ob nb cb), (3, .agg (ints .u8 32 t))]).run Tryz.prog w = .ok (.agg (stC (.slice oa na ca) f (.slice ob nb cb) t)) w := by kernel_rfl
@[go_sem] theorem zrlk (oa : Option Addr) (na ca : Nat) (f : Nat -> Int) (ob : Option Addr) (nb cb : Nat) (t : Nat -> Int) (w : World) : (stB4 (.slice oa na ca) (.agg (ints .u8 32 f)) (.slice ob nb cb) (.agg (ints .u8 32 t))).run Tryz.prog w = .ok (.value (.agg (stC (.slice oa na ca) f (.slice ob nb cb) t))) w := by
 unfold stB4;rw [Sem.run_bind, zq1u]
 rfl
def stB2 (x0 : Value) (x2 : Value) : Sem Next := do pure (.value (<- Instr.build 47 #[(0, x0), (2, x2)]))
@[go_sem ↓ high] theorem zrmw (ρ : Operand -> Value) (dd : Option Tmp) (x0 x2 : Operand) (t : TypeId) (pos : String) (af : Array Edge) (gg : Option (Nat × Bool)) :
  execOp ρ ⟨dd, .build 47 #[(0, x0), (2, x2)], t, pos, af, gg⟩ = stB2 (ρ x0) (ρ x2) := by simp [execOp, stB2]
@[go_sem high] theorem zrk9 (ρ : Operand -> Value) (dd : Option Tmp) (x0 x2 : Operand) (t : TypeId) (pos : String) (af : Array Edge) (gg : Option (Nat × Bool)) :
  execOp ρ ⟨dd, .build 47 #[(0, x0), (2, x2)], t, pos, af, gg⟩ = stB2 (ρ x0) (ρ x2) := by simp [execOp, stB2]
theorem zq04 (oa : Option Addr) (na ca : Nat) (ob : Option Addr) (nb cb : Nat) (w : World) : (Instr.build 47 #[(0, .slice oa na ca), (2, .slice ob nb cb)]).run Tryz.prog w = .ok (.agg (stC (.slice oa na ca) zqg (.slice ob nb cb) zqg)) w := by kernel_rfl
@[go_sem] theorem zrk3 (oa : Option Addr) (na ca : Nat) (ob : Option Addr) (nb cb : Nat) (w : World) : (stB2 (.slice oa na ca) (.slice ob nb cb)).run Tryz.prog w = .ok (.value (.agg (stC (.slice oa na ca) zqg (.slice ob nb cb) zqg))) w := by
 unfold stB2;rw [Sem.run_bind, zq04]
 rfl
def zqtp (x1 : Value) (x2 : Value) (x3 : Value) : Sem Next := do pure (.value (<- Instr.build 53 #[(1, x1), (2, x2), (3, x3)]))
@[go_sem ↓ high] theorem zrj8 (ρ : Operand -> Value) (dd : Option Tmp) (x1 x2 x3 : Operand) (t : TypeId) (pos : String) (af : Array Edge) (gg : Option (Nat × Bool)) :
  execOp ρ ⟨dd, .build 53 #[(1, x1), (2, x2), (3, x3)], t, pos, af, gg⟩ = zqtp (ρ x1) (ρ x2) (ρ x3) := by simp [execOp, zqtp]
@[go_sem high] theorem zrjq (ρ : Operand -> Value) (dd : Option Tmp) (x1 x2 x3 : Operand) (t : TypeId) (pos : String) (af : Array Edge) (gg : Option (Nat × Bool)) :
  execOp ρ ⟨dd, .build 53 #[(1, x1), (2, x2), (3, x3)], t, pos, af, gg⟩ = zqtp (ρ x1) (ρ x2) (ρ x3) := by simp [execOp, zqtp]
theorem zqx7 (f : Nat -> Int) (ob : Option Addr) (nb cb : Nat) (t : Nat -> Int) (w : World) : (Instr.build 53 #[(1, .agg (ints .u8 32 f)), (2, .slice ob nb cb), (3, .agg (ints .u8 32 t))]).run Tryz.prog w = .ok (.agg (stC (.slice none 0 0) f (.slice ob nb cb) t)) w := by kernel_rfl
@[go_sem] theorem zrho (f : Nat -> Int) (ob : Option Addr) (nb cb : Nat) (t : Nat -> Int) (w : World) : (zqtp (.agg (ints .u8 32 f)) (.slice ob nb cb) (.agg (ints .u8 32 t))).run Tryz.prog w = .ok (.value (.agg (stC (.slice none 0 0) f (.slice ob nb cb) t))) w := by
 unfold zqtp;rw [Sem.run_bind, zqx7]
 rfl
attribute [irreducible] stC stB4 stB2 zqtp
end Go.Proofs.YtnjghcnhcbobhaaGreatDoor
namespace Go.Proofs.YtnjghcnhcbobhaaGreatDoor
open Go.RowKit Go.Maps
def nmD (N : Nat -> Int) : Nat -> DataW Unit
 | 0 => .map []
 | k + 1 => (nmD N k).put (klit (N k)) (.lit (.bool true))
theorem zq9g (f : Nat -> Int) : ∀ k, Tidy (nmD f k) /\ Maps.size (nmD f k) <= k /\ (∀ v, Maps.has (nmD f k) (klit v) = true ↔ ∃ j, j < k /\ f j = v) /\ (¬ Twice f k -> Maps.size (nmD f k) = k) /\ (Twice f k -> Maps.size (nmD f k) < k)
 | 0 => ⟨tidy_empty, Nat.le_refl _, fun v => Iff.intro (fun h => by cases h) (fun ⟨j, hj, _⟩ => by omega), fun _ => rfl, fun ⟨a, ha, _⟩ => by omega⟩
 | k + 1 => by
  obtain ⟨h1, h2, h3, h4, h5⟩ := zq9g f k;have hs := size_put (k := klit (f k)) h1 (.lit (.bool true));have he : nmD f (k + 1) = (nmD f k).put (klit (f k)) (.lit (.bool true)) := rfl;rw [<- he] at hs;refine ⟨h1.put (zqk2 _) _, ?_, fun v => ?_, fun h => ?_, fun ⟨a, ha, b, hb, e⟩ => ?_⟩
  ·rw [hs]; split <;> omega
  ·by_cases e : v = f k
   ·subst e
    rw [he, has_put_same h1.isMap (zqk2 _)];exact ⟨fun _ => ⟨k, by omega, rfl⟩, fun _ => rfl⟩
   ·rw [he, has_put_other (fun h => e (zqvx h)), h3]
    exact ⟨fun ⟨j, hj, h⟩ => ⟨j, by omega, h⟩, fun ⟨j, hj, h⟩ => ⟨j, by
     rcases (by omega : j < k \/ j = k) with hj' | rfl
     ·exact hj'
     ·exact absurd h.symm e, h⟩⟩
  ·have hn : ¬ (Maps.has (nmD f k) (klit (f k)) = true) := fun hh => by
    obtain ⟨j, hj, e⟩ := (h3 _).1 hh;exact h ⟨k, by omega, j, hj, e.symm⟩
   rw [hs, if_neg hn, h4 fun ⟨a, ha, b, hb, e⟩ => h ⟨a, by omega, b, hb, e⟩]
  ·rw [hs]
   rcases (by omega : a < k \/ a = k) with ha' | rfl
   ·have := h5 ⟨a, ha', b, hb, e⟩
    split <;> omega
   ·rw [if_pos ((h3 _).2 ⟨b, hb, e.symm⟩)]
    omega
theorem zqzd (n : Int) (w : World) (h : 2 <= n /\ n <= 1024) :
  Calls Tryz.prog 61 #[.int .i64 n] w (Rt w (.bool true)) := by
 obtain ⟨h1, h2⟩ := h
 go_enter Tryz.func61, Tryz.ntmps61
 go_wp2;go_ret;exact ⟨by first | rfl | simp [h1, h2], Grew.refl _⟩
theorem zq30 (n : Int) (w : World) (h : ¬ (2 <= n /\ n <= 1024)) :
  Calls Tryz.prog 61 #[.int .i64 n] w (Rt w (.bool false)) := by
 go_enter Tryz.func61, Tryz.ntmps61
 by_cases h1 : 2 <= n
 ·have h2 : ¬ (n <= 1024) := fun h3 => h ⟨h1, h3⟩
  go_wp2;go_ret;exact ⟨by first | rfl | simp [h1, h2], Grew.refl _⟩
 ·go_wp2
  go_ret;exact ⟨by first | rfl | simp [h1], Grew.refl _⟩
theorem zqo9 (n : Int) (w : World) (h0 : 0 <= n) (h1 : n <= 1000000) :
  Calls Tryz.prog 63 #[.int .i64 n] w (Rt w (.int .i64 (2 * n - 2))) := by
 go_enter Tryz.func63, Tryz.ntmps63
 go_wp2;go_ret;exact ⟨rfl, Grew.refl _⟩
def zrnb (N : Nat -> Int) (n : Nat) (w : World) (e : Ending) (w' : World) : Prop := ∃ b : Bool, e = .returned (.bool b) /\ (b = true ↔ Twice N n) /\ Below w.heap.size w w'
theorem zqwj (oa ob : Option Addr) (n c m d : Nat) (f t : Nat -> Int) (N I : Nat -> Int) (w : World) (hn : n <= 2000) (hP : SeAt w oa n N I) (hN : ∀ j, j < n -> 0 <= N j /\ N j < 4294967296) :
  Calls Tryz.prog 62 #[.agg (stC (.slice oa n c) f (.slice ob m d) t)] w (zrnb N n w) := by
 have HP : Hid (SeAt w oa n N I) := hP;have HN := hid1 hN;clear hP hN;have hmm := @run_makeMap Tryz.prog;have LK : Keyed Tryz.prog 22 := int_keyed Tryz.underlying22
 go_enter Tryz.func62, Tryz.ntmps62
 go_wp2_with fail;have fs : zqd ((w.alloc (.cells (stC (.slice oa n c) f (.slice ob m d) t) 47)).alloc (.map #[] 0)) w.heap.size = some (.cells (stC (.slice oa n c) f (.slice ob m d) t) 47) := zqi _ (zqf _ _ _ rfl);have hmp : Hid (((w.alloc (.cells (stC (.slice oa n c) f (.slice ob m d) t) 47)).alloc (.map #[] 0)).ownsMap Tryz.prog 22 (plainElem (H := Unit) Tryz.prog 4) (w.heap.size + 1) 0 (.map [])) := by
  have := World.ownsMap_made (w.alloc (.cells (stC (.slice oa n c) f (.slice ob m d) t) 47)) Tryz.prog 22 (plainElem (H := Unit) Tryz.prog 4);rwa [World.size_alloc] at this
 have hG : Below w.heap.size w ((w.alloc (.cells (stC (.slice oa n c) f (.slice ob m d) t) 47)).alloc (.map #[] 0)) := Grew.alloc (Grew.alloc (Grew.refl _) _) _;have hsz : w.heap.size + 2 <= ((w.alloc (.cells (stC (.slice oa n c) f (.slice ob m d) t) 47)).alloc (.map #[] 0)).heap.size := by simp
 clear hmm;generalize (w.alloc (.cells (stC (.slice oa n c) f (.slice ob m d) t) 47)).alloc (.map #[] 0) = w2 at *;have ls := zqa fs
 go_loopw [10] (fun i wr => ∃ k : Nat, k <= n /\ i = .int .i64 k /\ Below w.heap.size w wr /\ zqd wr w.heap.size = some (.cells (stC (.slice oa n c) f (.slice ob m d) t) 47) /\ w.heap.size + 2 <= wr.heap.size /\ Hid (wr.ownsMap Tryz.prog 22 (plainElem (H := Unit) Tryz.prog 4) (w.heap.size + 1) k (nmD N k))) (fun i _ => n - (intOf i).toNat)
 case atStart => exact ⟨0, by omega, rfl, hG, fs, hsz, hmp⟩
 case round =>
  clear hG fs hsz hmp ls;obtain ⟨k, hk, rfl, hG, fs, hsz, HM⟩ := hrel;have ls := zqa fs
  by_cases hlt : k < n
  ·have hi1 : (k : Int) < (n : Int) := by omega
   have hi0 : (0 : Int) <= (k : Int) := by omega
   obtain ⟨ad, rfl, -⟩ := HP.out.blk (by omega);have hl := (HP.out.later hG).load_se hlt;obtain ⟨hx0, hx1⟩ := HN.out k hlt;have wfk : (Lit.int .u32 (N k)).wf = true := by simp [Lit.wf, IntKind.min, IntKind.max, IntKind.signed, IntKind.bits]; omega
   have hkey : keyOf Tryz.prog 22 (.int .u32 (N k)) = some (klit (N k)) := keyOf_int_mk Tryz.underlying22 wfk;have hnext : Hid (nmD N (k + 1) = (nmD N k).put (klit (N k)) (.lit (.bool true))) := rfl;have fx : zqd (wr.alloc (.cells #[.int .u32 (N k), .int .u32 (I k)] 63)) wr.heap.size = some (.cells #[.int .u32 (N k), .int .u32 (I k)] 63) := zqf _ _ _ rfl;have fs1 := zqi (.cells #[.int .u32 (N k), .int .u32 (I k)] 63) fs;have hG1 := Grew.alloc hG (.cells #[.int .u32 (N k), .int .u32 (I k)] 63);have hsz1 : w.heap.size + 2 <= (wr.alloc (.cells #[.int .u32 (N k), .int .u32 (I k)] 63)).heap.size := by simp; omega
   have HM1 := hid1 (HM.out.alloc (.cells #[.int .u32 (N k), .int .u32 (I k)] 63));go_wp2_with (first | (at_mapUpdate; refine wpList_mapUpdate_own _ rfl _ _ _ 182 rfl 22 4 LK Tryz.underlying182 (plainElem (H := Unit) Tryz.prog 4) (w.heap.size + 1) k _ rfl HM1.out (by unfold maxLen; omega) _ _ _ rfl rfl hkey _ [] (plainElem_bool Tryz.underlying4 true) ?_) | go_in);intro w6 hown hgrow;rw [<- hnext.out] at hown;have hG6 := hG1.grown hgrow (by omega) (fun j e => by cases e; omega);have fs6 : zqd w6 w.heap.size = _ := (hgrow.block _ (by omega) (fun e => by have := Option.some.inj e; omega)).trans fs1;have hsz6 := Nat.le_trans hsz1 hgrow.size;have HM6 := hid1 hown;clear hown hgrow HM HM1 fs1 hG1 fx hl;go_wp2
   go_roundw
   case rel => first | exact ⟨k + 1, by omega, by go_num, hG6, fs6, hsz6, HM6⟩ | ((repeat' apply Exists.intro) <;> first | exact ⟨⟨k + 1, by omega, by go_num, hG6, fs6, hsz6, HM6⟩, rfl⟩ | exact undef)
   case measure => (simp [intOf]; omega)
  ·obtain rfl : k = n := by omega
   have hi1 : ¬ ((k : Int) < (k : Int)) := by omega
   have hlen := HM.out.len Tryz.underlying182 3;obtain ⟨-, -, -, s2, s1⟩ := zq9g N k;obtain ⟨s, hs⟩ : ∃ s, Maps.size (nmD N k) = s := ⟨_, rfl⟩
   rw [hs] at hlen s1 s2
   by_cases hd : Twice N k
   ·have hlt2 : (s : Int) < (k : Int) := by have := s1 hd; omega
    go_wp2;go_ret;exact ⟨true, rfl, ⟨fun _ => hd, fun _ => rfl⟩, hG⟩
   ·have hlt2 : ¬ ((s : Int) < (k : Int)) := by have := s2 hd; omega
    go_wp2;go_ret;exact ⟨false, rfl, ⟨fun h => (by cases h), fun h => absurd h hd⟩, hG⟩
theorem zqfu (oa ob : Option Addr) (n c m d : Nat) (f t : Nat -> Int) (N I : Nat -> Int) (w : World) (hn : n <= 100000) (hm : m <= 100000) (hP : SeAt w oa n N I) (hN : ∀ j, j < n -> 0 <= N j /\ N j < 4294967296) :
  Calls Tryz.prog 20 #[.agg (stC (.slice oa n c) f (.slice ob m d) t)] w fun e w' => ∃ u, e = .returned (u) /\ ErV w' u (chkE n N m) /\ Below w.heap.size w w' := by
 have HP : Hid (SeAt w oa n N I) := hP;clear hP
 go_enter Tryz.func20, Tryz.ntmps20
 have fb : zqd (w.alloc (.cells (stC (.slice oa n c) f (.slice ob m d) t) 47)) w.heap.size = some (.cells (stC (.slice oa n c) f (.slice ob m d) t) 47) := zqf _ _ _ rfl;have hG : Below w.heap.size w (w.alloc (.cells (stC (.slice oa n c) f (.slice ob m d) t) 47)) := Grew.alloc (Grew.refl _) _;have lb := zqa fb
 by_cases h : 2 <= n /\ n <= 1024
 case neg =>
  have hE := hid1 (show chkE n N m = 4 by unfold chkE; rw [if_pos (by omega)]);have hc := fun W => zq30 (n : Int) W (by omega);go_wp2_with fail;refine (hc _).mono ?_
  rintro e w2 ⟨rfl, hb⟩;replace hG := Grew.trans hG hb;go_wp2_with fail;refine (wrap_any _ _ _ _).mono ?_
  rintro e w3 ⟨rfl, rfl⟩;go_wp2;go_ret;exact ⟨_, rfl, by rw [hE.out]; exact zqio _ 4 (by decide), Grew.alloc hG _⟩
 have hc := fun W => zqzd (n : Int) W (by omega);go_wp2_with fail;refine (hc _).mono ?_
 rintro e w2 ⟨rfl, hb⟩;replace fb := zqb hb fb;replace hG := Grew.trans hG hb;clear hb lb hc;have lb := zqa fb;go_wp2_with fail;refine (zqwj oa ob n c m d f t N I _ (by omega) (HP.out.later hG) hN).mono ?_
 rintro e w3 ⟨b, rfl, hbt, hb⟩;replace fb := zqb hb fb;replace hG := Grew.trans hG hb;clear hb lb hN;have lb := zqa fb
 cases b with
 | true =>
  have hE := hid1 (show chkE n N m = 15 by unfold chkE; rw [if_neg (by omega), if_pos (zqvu (hbt.1 rfl))]);clear hbt;go_wp2_with fail;refine (wrap_any _ _ _ _).mono ?_
  rintro e w3 ⟨rfl, rfl⟩;go_wp2;go_ret;exact ⟨_, rfl, by rw [hE.out]; exact zqio _ 15 (by decide), Grew.alloc hG _⟩
 | false =>
  have hnd : ¬ Twice N n := fun h => by cases hbt.2 h
  have cP := fun W => zqo9 (n : Int) W (by omega) (by omega);clear hbt
  by_cases hm2 : (m : Int) = 2 * (n : Int) - 2
  ·have hE := hid1 (show chkE n N m = 0 by unfold chkE; rw [if_neg (by omega), zql1 hnd, if_neg (by decide), if_neg (by omega)])
   have hE2 : ((m : Int) == 2 * (n : Int) - 2) = true := by simp [hm2]
   clear hnd;go_wp2_with fail
   ((first | (with_reducible refine zq5 zqc zqc ?_) | refine zqz zqc zqc ?_); (repeat (first | go_big_quiet_skip | (go_big_quiet_want; go_big_quiet_op; first | go_big_quiet_on | (apply Exists.intro; refine ⟨fun _ => ?_, ?_⟩; (focus (exact Calls.of_more (cP _))); go_big_quiet_on)))); refine wpQuiet_nil ?_; rintro _ ⟨mq, rfl⟩)
   replace hG := Grew.more hG mq;generalize more w3 mq = w4 at *;go_wp2;go_ret;exact ⟨_, rfl, by rw [hE.out]; exact .inl ⟨rfl, rfl⟩, hG⟩
  ·have hE := hid1 (show chkE n N m = 6 by unfold chkE; rw [if_neg (by omega), zql1 hnd, if_neg (by decide), if_pos (by omega)])
   have hE2 : ((m : Int) == 2 * (n : Int) - 2) = false := by simp [hm2]
   clear hnd;go_wp2_with fail
   ((first | (with_reducible refine zq5 zqc zqc ?_) | refine zqz zqc zqc ?_); (repeat (first | go_big_quiet_skip | (go_big_quiet_want; go_big_quiet_op; first | go_big_quiet_on | (apply Exists.intro; refine ⟨fun _ => ?_, ?_⟩; (focus (exact Calls.of_more (cP _))); go_big_quiet_on)))); refine wpQuiet_nil ?_; rintro _ ⟨mq, rfl⟩)
   replace hG := Grew.more hG mq;generalize more w3 mq = w4 at *;go_wp2_with fail;refine (wrap_any _ _ _ _).mono ?_
   rintro e w3 ⟨rfl, rfl⟩;go_wp2;go_ret;exact ⟨_, rfl, by rw [hE.out]; exact zqio _ 6 (by decide), Grew.alloc hG _⟩
end Go.Proofs.YtnjghcnhcbobhaaGreatDoor
namespace Go.Proofs.YtnjghcnhcbobhaaGreatDoor
open Go.RowKit Go.Extern
theorem zq9x {n m : Nat} {N : Nat -> Int} (h2 : 2 <= n) (hn : n <= 1024) (hm : m = 2 * n - 2) (hd : ¬ Twice N n) : chkE n N m = 0 := by
 subst hm;unfold chkE;rw [if_neg (by omega), zql1 hd, if_neg (by decide), if_neg (fun h => h rfl)]
theorem zril (n : Nat) (N I f : Nat -> Int) (m : Nat) (P : Nat -> Nat -> Int) (t : Nat -> Int) : sB n N I f m P t = catS (twoT (catS (sF n N I f m P t) (3 + 2 * n + 2)) t) 2 := by
 rw [zq0t];generalize catS (sF n N I f m P t) (3 + 2 * n + 2) = B
 show B ++ zqcg (fun _ => t) 1 = ByteArray.empty ++ B ++ zqcg (fun _ => t) 1
 rw [ByteArray.empty_append]
theorem zqqe (oa ob : Option Addr) (n c m d : Nat) (f t : Nat -> Int) (N I : Nat -> Int) (P : Nat -> Nat -> Int) (w : World) (hP : SeAt w oa n N I) (hN : ∀ j, j < n -> 0 <= N j /\ N j < 4294967296) (hI : ∀ j, j < n -> 0 <= I j /\ I j < 4294967296) (hK : K32At w ob m P) (gP : ∀ j, j < m -> Bytes 32 (P j)) (gf : Bytes 32 f) (h2 : 2 <= n) (hn : n <= 400) (hm : m = 2 * n - 2) (hd : ¬ Twice N n) :
  Calls Tryz.prog 18 #[.agg (stC (.slice oa n c) f (.slice ob m d) t)] w (Rt w (.tuple #[.string (catS (sF n N I f m P t) (3 + 2 * n + 2)), .nilIface])) := by
 have HP : Hid (SeAt w oa n N I) := hP;have HK : Hid (K32At w ob m P) := hK;have HNI := hid1 (And.intro hN hI);have GP := hid1 gP;have hE := zq9x h2 (Nat.le_trans hn (by decide)) hm hd;have hn2 : n <= 100000 := by omega
 have hm2 : m <= 1000 := by omega
 clear hP hK gP hI hm
 go_enter Tryz.func18, Tryz.ntmps18
 go_wp2_with fail;have fb : zqd (w.alloc (.cells (stC (.slice oa n c) f (.slice ob m d) t) 47)) w.heap.size = some (.cells (stC (.slice oa n c) f (.slice ob m d) t) 47) := zqf _ _ _ rfl;have hG : Below w.heap.size w (w.alloc (.cells (stC (.slice oa n c) f (.slice ob m d) t) 47)) := Grew.alloc (Grew.refl _) _;generalize w.alloc (.cells (stC (.slice oa n c) f (.slice ob m d) t) 47) = w1 at *;refine (zqfu oa ob n c m d f t N I _ hn2 (by omega) (HP.out.later hG) hN).mono ?_
 rintro e w2 ⟨u, rfl, hu, hb⟩;rw [hE] at hu;replace fb := zqb hb fb;replace hG := Grew.trans hG hb;clear hb hN hE
 rcases hu with ⟨-, rfl⟩ | ⟨h9, -⟩
 case inr => exact absurd rfl h9
 have lb := zqa fb;have hw2 : IntKind.u64.wrap (n : Int) = (n : Int) := by rw [IntKind.wrap_u64]; omega
 go_wp2_with fail;refine zqej (fun k => k == 1 || k == 2 || k == 7) (fun k => match k with | 1 => fun u => WSh u | 2 => fun u => WSh u | 7 => fun u => WSh u | _ => fun _ => True) (fun k => match k with | 1 => fun u w => PcW [numB 1 1] u w | 2 => fun u w => PcW [numB 1 2, numB 1 1] u w | 7 => fun u w => PcW [numB 2 (n : Int), numB 1 2, numB 1 1] u w | _ => fun _ _ => True) (fun k => match k with | 1 => .agg #[.pointer (some ⟨0, 0, none⟩)] | 2 => .agg #[.pointer (some ⟨0, 0, none⟩)] | 7 => .agg #[.pointer (some ⟨0, 0, none⟩)] | _ => undef) (fun i hi => ?_) zqc zqc ?_
 ·simp only [Bool.or_eq_true, beq_iff_eq] at hi
  rcases hi with (rfl | rfl) | rfl
  ·exact ⟨0, rfl⟩
  ·exact ⟨0, rfl⟩
  ·exact ⟨0, rfl⟩
 (first | refine zqv rfl ?_ | (refine zqo rfl ?_; apply Exists.intro))
 refine zqo rfl ⟨undef, ?_⟩;refine zqo rfl ⟨undef, ?_⟩
 iterate 4 (first | refine zqv rfl ?_ | (refine zqo rfl ?_; apply Exists.intro))
 refine zqo rfl ⟨undef, ?_⟩
 iterate 2 (first | refine zqv rfl ?_ | (refine zqo rfl ?_; apply Exists.intro))
 refine zqbw ?_
 intro γ gv hsv hinj hbase;obtain ⟨g1, e1⟩ := hsv 1 rfl;obtain ⟨g2, e2⟩ := hsv 2 rfl;obtain ⟨g3, e3⟩ := hsv 7 rfl
 (repeat (first | (refine zqy rfl ?_; ((first | go_big_quiet_skip | (go_big_quiet_want; go_big_quiet_op; go_big_quiet_on)); refine wpQuiet_nil ?_)) | ((first | refine zql rfl (fun _ => rfl) ?_ | (apply zq9; (focus rfl); (focus rfl); (focus rfl); (focus (intro W hC hF; (skip); go_big_quiet_want; go_big_quiet_op; (first | go_big_quiet_on | (apply Exists.intro; refine ⟨fun _ => ?_, ?_⟩; (focus ((fail))); go_big_quiet_on)); exact wpQuiet_nil rfl)); (focus (first | exact fun _ => ⟨rfl, rfl⟩ | exact fun h => absurd h (by decide))))); ((first | go_big_quiet_skip | (go_big_quiet_want; go_big_quiet_op; go_big_quiet_on)); refine wpQuiet_nil ?_)) | refine zqm rfl (fun _ => rfl) ?_))
 refine zqan #[.agg #[.pointer none], .int .i64 1, .int .u64 1] (enters_of Tryz.func42 zqc rfl) rfl e1 rfl rfl rfl rfl (by exact zqbs) (by first | kernel_rfl | simp [go_sem]) ?_ ?_
 ·intro W hC hF
  obtain ⟨mm, rfl⟩ := hC;refine (zqeb 1 1 none _ (by omega) (by omega)).mono ?_
  rintro e w9 ⟨g, rfl, fg, hb9⟩;exact ⟨_, rfl, ⟨g, rfl⟩, (fun v ev => by cases ev; exact ⟨g, _, rfl, fg, rfl⟩), hb9⟩
 ((first | go_big_quiet_skip | (go_big_quiet_want; go_big_quiet_op; go_big_quiet_on)); refine wpQuiet_nil ?_)
 (repeat (first | (refine zqy rfl ?_; ((first | go_big_quiet_skip | (go_big_quiet_want; go_big_quiet_op; go_big_quiet_on)); refine wpQuiet_nil ?_)) | ((first | refine zql rfl (fun _ => rfl) ?_ | (apply zq9; (focus rfl); (focus rfl); (focus rfl); (focus (intro W hC hF; (skip); go_big_quiet_want; go_big_quiet_op; (first | go_big_quiet_on | (apply Exists.intro; refine ⟨fun _ => ?_, ?_⟩; (focus ((fail))); go_big_quiet_on)); exact wpQuiet_nil rfl)); (focus (first | exact fun _ => ⟨rfl, rfl⟩ | exact fun h => absurd h (by decide))))); ((first | go_big_quiet_skip | (go_big_quiet_want; go_big_quiet_op; go_big_quiet_on)); refine wpQuiet_nil ?_)) | refine zqm rfl (fun _ => rfl) ?_))
 refine zqan #[.agg #[.pointer (some ⟨g1, 0, none⟩)], .int .i64 1, .int .u64 2] (enters_of Tryz.func42 zqc rfl) rfl e2 rfl rfl rfl rfl (by exact zqbs) (by first | kernel_rfl | simp [go_sem]) ?_ ?_
 ·intro W hC hF
  obtain ⟨mm, rfl⟩ := hC;have hE0 : PcW [numB 1 1] (.agg #[.pointer (some ⟨g1, 0, none⟩)]) (more w2 mm) := known hF (List.mem_cons_self ..) (by decide +kernel);refine (zqeb 1 2 (some ⟨g1, 0, none⟩) _ (by omega) (by omega)).mono ?_
  rintro e w9 ⟨g, rfl, fg, hb9⟩;exact ⟨_, rfl, ⟨g, rfl⟩, (fun v ev => by cases ev; exact ⟨g, _, rfl, fg, (hE0 _ rfl).later hb9⟩), hb9⟩
 ((first | go_big_quiet_skip | (go_big_quiet_want; go_big_quiet_op; go_big_quiet_on)); refine wpQuiet_nil ?_)
 (repeat (first | (refine zqy rfl ?_; ((first | go_big_quiet_skip | (go_big_quiet_want; go_big_quiet_op; go_big_quiet_on)); refine wpQuiet_nil ?_)) | ((first | refine zql rfl (fun _ => rfl) ?_ | (apply zq9; (focus rfl); (focus rfl); (focus rfl); (focus (intro W hC hF; (skip); go_big_quiet_want; go_big_quiet_op; (first | go_big_quiet_on | (apply Exists.intro; refine ⟨fun _ => ?_, ?_⟩; (focus ((fail))); go_big_quiet_on)); exact wpQuiet_nil rfl)); (focus (first | exact fun _ => ⟨rfl, rfl⟩ | exact fun h => absurd h (by decide))))); ((first | go_big_quiet_skip | (go_big_quiet_want; go_big_quiet_op; go_big_quiet_on)); refine wpQuiet_nil ?_)) | refine zqm rfl (fun _ => rfl) ?_))
 refine zqan #[.agg #[.pointer (some ⟨g2, 0, none⟩)], .int .i64 2, .int .u64 (n : Int)] (enters_of Tryz.func42 zqc rfl) rfl e3 rfl rfl rfl rfl (by exact zqbs) (by first | kernel_rfl | simp [go_sem]) ?_ ?_
 ·intro W hC hF
  obtain ⟨mm, rfl⟩ := hC;have hE0 : PcW [numB 1 2, numB 1 1] (.agg #[.pointer (some ⟨g2, 0, none⟩)]) (more w2 mm) := known hF (List.mem_cons_self ..) (by decide +kernel);refine (zqeb 2 (n : Int) (some ⟨g2, 0, none⟩) _ (by omega) (by omega)).mono ?_
  rintro e w9 ⟨g, rfl, fg, hb9⟩;exact ⟨_, rfl, ⟨g, rfl⟩, (fun v ev => by cases ev; exact ⟨g, _, rfl, fg, (hE0 _ rfl).later hb9⟩), hb9⟩
 ((first | go_big_quiet_skip | (go_big_quiet_want; go_big_quiet_op; go_big_quiet_on)); refine wpQuiet_nil ?_)
 (repeat (first | (refine zqy rfl ?_; ((first | go_big_quiet_skip | (go_big_quiet_want; go_big_quiet_op; go_big_quiet_on)); refine wpQuiet_nil ?_)) | ((first | refine zql rfl (fun _ => rfl) ?_ | ((try simp only [Nat.zero_add, Nat.reduceAdd]); apply zqbn _ _ zq1; (focus rfl); (focus (intro W; (first | exact zqb9 _ | exact zqbk _ | exact zero_num _ | exact zqbl _ | exact zqa9 _ | exact zqa5 _ | exact zqki _))); (focus (first | exact zqa8 _ _ _ | exact zqbm _ _ | rfl)); (focus (exact zqbs))) | (apply zq9; (focus rfl); (focus rfl); (focus rfl); (focus (intro W hC hF; (skip); go_big_quiet_want; go_big_quiet_op; (first | go_big_quiet_on | (apply Exists.intro; refine ⟨fun _ => ?_, ?_⟩; (focus ((fail))); go_big_quiet_on)); exact wpQuiet_nil rfl)); (focus (first | exact fun _ => ⟨rfl, rfl⟩ | exact fun h => absurd h (by decide))))); ((first | go_big_quiet_skip | (go_big_quiet_want; go_big_quiet_op; go_big_quiet_on)); refine wpQuiet_nil ?_)) | refine zqm rfl (fun _ => rfl) ?_ | ((try simp only [Nat.zero_add, Nat.reduceAdd]); apply zqbo (zqa7 (hbase _)); (focus rfl); (focus rfl); (focus rfl); (focus (first | exact zqag _ | exact zqah _ _ | exact zqaa _ | rfl)); rotate_left 3; (focus (exact zqdv)); rotate_right 3; (focus kernel_rfl); (focus (first | exact zqj _ _ _ | rfl)); (focus (first | exact zqa3 _ _ _ | exact zqbr _ _ _ _ | kernel_rfl)); (focus (decide +kernel)); (focus (exact zqbs)))))
 (refine zqb7 ?_; rintro _ ⟨mq, rfl⟩ hF; simp only [List.forall_mem_cons] at hF; obtain ⟨fv, -, f3, -⟩ := hF)
 have hP3 := f3 _ rfl;replace hG := Grew.more hG mq;replace fv : zqd (more w2 mq) (γ 8) = some (.cells #[.pointer (some ⟨g3, 0, none⟩)] 99) := fv;replace fb := zqp mq fb;have HPc : Hid (Pcs (more w2 mq) (revL (sF n N I f m P t) (3 + 2 * 0)) (.pointer (some ⟨g3, 0, none⟩))) := by rw [zq5s]; exact hP3
 have hgw : w.heap.size < γ 8 := Nat.lt_of_lt_of_le lb (hbase 8);clear f3 hinj hbase hsv e1 e2 e3 lb hP3;generalize γ 8 = gw at *;generalize more w2 mq = w3 at *;clear γ;have lv := zqa fv;have lb := zqa fb;go_wp2_with fail
 go_loopw [24] (fun i wr => ∃ (k : Nat) (p : Option Addr), k <= n /\ i = .int .i64 k /\ zqd wr gw = some (.cells #[.pointer p] 99) /\ Hid (Pcs wr (revL (sF n N I f m P t) (3 + 2 * k)) (.pointer p)) /\ zqd wr w.heap.size = some (.cells (stC (.slice oa n c) f (.slice ob m d) t) 47) /\ Below w.heap.size w wr) (fun i _ => n - (intOf i).toNat)
 case atStart => exact ⟨0, _, by omega, rfl, fv, HPc, fb, hG⟩
 case round =>
  clear hG fv fb HPc lv lb;obtain ⟨k, p, hk, rfl, fv, HPc, fb, hG⟩ := hrel;have lv := zqa fv;have lb := zqa fb
  by_cases hlt : k < n
  ·have hi1 : (k : Int) < (n : Int) := by omega
   have hi0 : (0 : Int) <= (k : Int) := by omega
   obtain ⟨ad, rfl, -⟩ := HP.out.blk (by omega);have hl := (HP.out.later hG).load_se hlt;have hx := HNI.out.1 k hlt;have hy := HNI.out.2 k hlt;have HR := hid1 (zrh4 n N I f m P t k hlt);generalize N k = x at *;generalize I k = y at *;have hw3 : IntKind.u64.wrap x = x := by rw [IntKind.wrap_u64]; omega
   have hw4 : IntKind.u64.wrap y = y := by rw [IntKind.wrap_u64]; omega
   have fp : zqd (wr.alloc (.cells #[.int .u32 x, .int .u32 y] 63)) wr.heap.size = some (.cells #[.int .u32 x, .int .u32 y] 63) := zqf _ _ _ rfl;have fv1 := zqi (.cells #[.int .u32 x, .int .u32 y] 63) fv;have fb1 := zqi (.cells #[.int .u32 x, .int .u32 y] 63) fb;have HP1 : Hid (Pcs (wr.alloc (.cells #[.int .u32 x, .int .u32 y] 63)) (revL (sF n N I f m P t) (3 + 2 * k)) (.pointer p)) := HPc.out.later (Grew.alloc (Grew.refl _) _);have hG1 := Grew.alloc hG (.cells #[.int .u32 x, .int .u32 y] 63);go_wp2_with fail;clear hl fv fb HPc hG lv lb;generalize wr.alloc (.cells #[.int .u32 x, .int .u32 y] 63) = w5 at *;generalize wr.heap.size = gp at *;have lv := zqa fv1;have lb := zqa fb1;have lp := zqa fp;generalize revL (sF n N I f m P t) (3 + 2 * k) = LL at *
   refine zqpo (fun k => k == 4 || k == 8) (fun k => match k with | 4 => fun u => WSh u | 8 => fun u => WSh u | _ => fun _ => True) (fun k => match k with | 4 => fun u w => PcW (numB 4 x :: LL) u w | 8 => fun u w => PcW (numB 4 y :: numB 4 x :: LL) u w | _ => fun _ _ => True) (fun k => match k with | 4 => .agg #[.pointer (some ⟨0, 0, none⟩)] | 8 => .agg #[.pointer (some ⟨0, 0, none⟩)] | _ => undef) (fun i hi => ?_) 9 zqc zqc zqc zqc zqc ?_
   ·simp only [Bool.or_eq_true, beq_iff_eq] at hi
    rcases hi with rfl | rfl
    ·exact ⟨0, rfl⟩
    ·exact ⟨0, rfl⟩
   simp only [List.take_succ_cons, List.take_zero]
   iterate 4 (first | refine zqv rfl ?_ | (refine zqo rfl ?_; apply Exists.intro))
   refine zqo rfl ⟨undef, ?_⟩
   iterate 3 (first | refine zqv rfl ?_ | (refine zqo rfl ?_; apply Exists.intro))
   refine zqo rfl ⟨undef, ?_⟩;refine zqbw ?_
   intro γ gv hsv hinj hbase;obtain ⟨g1, e1⟩ := hsv 4 rfl;obtain ⟨g2, e2⟩ := hsv 8 rfl
   (repeat (first | (refine zqy rfl ?_; ((first | go_big_quiet_skip | (go_big_quiet_want; go_big_quiet_op; go_big_quiet_on)); refine wpQuiet_nil ?_)) | ((first | refine zql rfl (fun _ => rfl) ?_ | (apply zq9; (focus rfl); (focus rfl); (focus rfl); (focus (intro W hC hF; (skip); go_big_quiet_want; go_big_quiet_op; (first | go_big_quiet_on | (apply Exists.intro; refine ⟨fun _ => ?_, ?_⟩; (focus ((fail))); go_big_quiet_on)); exact wpQuiet_nil rfl)); (focus (first | exact fun _ => ⟨rfl, rfl⟩ | exact fun h => absurd h (by decide))))); ((first | go_big_quiet_skip | (go_big_quiet_want; go_big_quiet_op; go_big_quiet_on)); refine wpQuiet_nil ?_)) | refine zqm rfl (fun _ => rfl) ?_))
   refine zqan #[.agg #[.pointer p], .int .i64 4, .int .u64 x] (enters_of Tryz.func42 zqc rfl) rfl e1 rfl rfl rfl rfl (by exact zqbs) (by first | kernel_rfl | simp [go_sem]) ?_ ?_
   ·intro W hC hF
    obtain ⟨mm, rfl⟩ := hC;refine (zqeb 4 x p _ (by omega) (by omega)).mono ?_
    rintro e w9 ⟨g, rfl, fg, hb9⟩;exact ⟨_, rfl, ⟨g, rfl⟩, (fun v ev => by cases ev; exact ⟨g, _, rfl, fg, (HP1.out.later (zqk _ _)).later hb9⟩), hb9⟩
   ((first | go_big_quiet_skip | (go_big_quiet_want; go_big_quiet_op; go_big_quiet_on)); refine wpQuiet_nil ?_)
   (repeat (first | (refine zqy rfl ?_; ((first | go_big_quiet_skip | (go_big_quiet_want; go_big_quiet_op; go_big_quiet_on)); refine wpQuiet_nil ?_)) | ((first | refine zql rfl (fun _ => rfl) ?_ | (apply zq9; (focus rfl); (focus rfl); (focus rfl); (focus (intro W hC hF; (skip); go_big_quiet_want; go_big_quiet_op; (first | go_big_quiet_on | (apply Exists.intro; refine ⟨fun _ => ?_, ?_⟩; (focus ((fail))); go_big_quiet_on)); exact wpQuiet_nil rfl)); (focus (first | exact fun _ => ⟨rfl, rfl⟩ | exact fun h => absurd h (by decide))))); ((first | go_big_quiet_skip | (go_big_quiet_want; go_big_quiet_op; go_big_quiet_on)); refine wpQuiet_nil ?_)) | refine zqm rfl (fun _ => rfl) ?_))
   refine zqan #[.agg #[.pointer (some ⟨g1, 0, none⟩)], .int .i64 4, .int .u64 y] (enters_of Tryz.func42 zqc rfl) rfl e2 rfl rfl rfl rfl (by exact zqbs) (by first | kernel_rfl | simp [go_sem]) ?_ ?_
   ·intro W hC hF
    obtain ⟨mm, rfl⟩ := hC;have hE0 : PcW (numB 4 x :: LL) (.agg #[.pointer (some ⟨g1, 0, none⟩)]) (more w5 mm) := known hF (List.mem_cons_self ..) (by decide +kernel);refine (zqeb 4 y (some ⟨g1, 0, none⟩) _ (by omega) (by omega)).mono ?_
    rintro e w9 ⟨g, rfl, fg, hb9⟩;exact ⟨_, rfl, ⟨g, rfl⟩, (fun v ev => by cases ev; exact ⟨g, _, rfl, fg, (hE0 _ rfl).later hb9⟩), hb9⟩
   ((first | go_big_quiet_skip | (go_big_quiet_want; go_big_quiet_op; go_big_quiet_on)); refine wpQuiet_nil ?_)
   (repeat (first | (refine zqy rfl ?_; ((first | go_big_quiet_skip | (go_big_quiet_want; go_big_quiet_op; go_big_quiet_on)); refine wpQuiet_nil ?_)) | ((first | refine zql rfl (fun _ => rfl) ?_ | (apply zq9; (focus rfl); (focus rfl); (focus rfl); (focus (intro W hC hF; (skip); go_big_quiet_want; go_big_quiet_op; (first | go_big_quiet_on | (apply Exists.intro; refine ⟨fun _ => ?_, ?_⟩; (focus ((fail))); go_big_quiet_on)); exact wpQuiet_nil rfl)); (focus (first | exact fun _ => ⟨rfl, rfl⟩ | exact fun h => absurd h (by decide))))); ((first | go_big_quiet_skip | (go_big_quiet_want; go_big_quiet_op; go_big_quiet_on)); refine wpQuiet_nil ?_)) | refine zqm rfl (fun _ => rfl) ?_))
   (refine zqk5 ?_; rintro _ ⟨mq, rfl⟩ hF; simp only [List.forall_mem_cons] at hF; obtain ⟨f8, -⟩ := hF)
   have hP8 := f8 _ rfl;replace hG := Grew.more hG1 mq;replace fv := zqp mq fv1;replace fb := zqp mq fb1;clear f8 hinj hbase hsv e1 e2 fp lp HP1 hG1 fv1 fb1 lv lb hx hy;generalize more w5 mq = w6 at *;clear γ gv;have lv := zqa fv
   (refine zqx (i := 9) (fuel := 0) zqc rfl ?_; intro K hK; go_simp; refine hK _ _ ?_; clear hK K)
   (refine wpAny_done zqc ?_ _)
   have HP9 : Hid (Pcs (w6.setRow gw #[.pointer (some ⟨g2, 0, none⟩)]) (revL (sF n N I f m P t) (3 + 2 * (k + 1))) (.pointer (some ⟨g2, 0, none⟩))) := by rw [HR.out]; exact hid1 (hP8.put fv (by decide) _)
   replace hG := Grew.setRow hG gw #[.pointer (some ⟨g2, 0, none⟩)] (by omega);have fb9 := zqn gw #[.pointer (some ⟨g2, 0, none⟩)] fb (by omega);have fv9 := zqs #[.pointer (some ⟨g2, 0, none⟩)] fv;clear hP8 fb fv lv;generalize w6.setRow gw #[.pointer (some ⟨g2, 0, none⟩)] = w7 at *;go_wp2
   go_roundw
   case rel => first | exact ⟨k + 1, _, by omega, by go_num, fv9, HP9, fb9, hG⟩ | ((repeat' apply Exists.intro) <;> first | exact ⟨⟨k + 1, _, by omega, by go_num, fv9, HP9, fb9, hG⟩, rfl⟩ | exact undef)
   case measure => (simp [intOf]; omega)
  ·obtain rfl : k = n := by omega
   have hi1 : ¬ ((k : Int) < (k : Int)) := by omega
   have HR := hid1 (zrdw k N I f m P t);have hsz := zqkx k N I f m P t;have cT := fun (p : Option Addr) (W : World) (hc : Pcs W (revL (sF k N I f m P t) (3 + 2 * k + 2)) (.pointer p)) => zqld (sF k N I f m P t) (3 + 2 * k + 2) (.pointer p) W hc (by omega) (by rw [hsz]; omega);rw [HR.out] at cT;have HK1 := hid1 (HK.out.later hG);generalize revL (sF k N I f m P t) (3 + 2 * k) = LL at *;generalize hTX : catS (sF k N I f m P t) (3 + 2 * k + 2) = TX at *;clear HR hsz;go_wp2_with fail
   refine zqej (fun k => k == 4 || k == 7) (fun k => match k with | 4 => fun u => WSh u | 7 => fun u => WSh u | _ => fun _ => True) (fun k => match k with | 4 => fun u w => PcW (zqcg (fun _ => f) 1 :: LL) u w | 7 => fun u w => PcW (zqcg P m :: zqcg (fun _ => f) 1 :: LL) u w | _ => fun _ _ => True) (fun k => match k with | 4 => .agg #[.pointer (some ⟨0, 0, none⟩)] | 7 => .agg #[.pointer (some ⟨0, 0, none⟩)] | _ => undef) (fun i hi => ?_) zqc zqc ?_
   ·simp only [Bool.or_eq_true, beq_iff_eq] at hi
    rcases hi with rfl | rfl
    ·exact ⟨0, rfl⟩
    ·exact ⟨0, rfl⟩
   iterate 4 (first | refine zqv rfl ?_ | (refine zqo rfl ?_; apply Exists.intro))
   refine zqo rfl ⟨undef, ?_⟩
   iterate 2 (first | refine zqv rfl ?_ | (refine zqo rfl ?_; apply Exists.intro))
   refine zqo rfl ⟨undef, ?_⟩
   iterate 3 (first | refine zqv rfl ?_ | (refine zqo rfl ?_; apply Exists.intro))
   refine zqbw ?_
   intro γ gv hsv hinj hbase;obtain ⟨g1, e1⟩ := hsv 4 rfl;obtain ⟨g2, e2⟩ := hsv 7 rfl
   (repeat (first | (refine zqy rfl ?_; ((first | go_big_quiet_skip | (go_big_quiet_want; go_big_quiet_op; go_big_quiet_on)); refine wpQuiet_nil ?_)) | ((first | refine zql rfl (fun _ => rfl) ?_ | ((try simp only [Nat.zero_add, Nat.reduceAdd]); apply zqbx zq1; (focus rfl); (focus (intro W; simp only [List.map_toArray, List.map_cons, List.map_nil]; first | (with_reducible exact zqh1 _ W) | exact zqh1 _ W)); (focus (exact zqbs))) | (apply zq9; (focus rfl); (focus rfl); (focus rfl); (focus (intro W hC hF; (skip); go_big_quiet_want; go_big_quiet_op; (first | go_big_quiet_on | (apply Exists.intro; refine ⟨fun _ => ?_, ?_⟩; (focus ((fail))); go_big_quiet_on)); exact wpQuiet_nil rfl)); (focus (first | exact fun _ => ⟨rfl, rfl⟩ | exact fun h => absurd h (by decide))))); ((first | go_big_quiet_skip | (go_big_quiet_want; go_big_quiet_op; go_big_quiet_on)); refine wpQuiet_nil ?_)) | refine zqm rfl (fun _ => rfl) ?_))
   refine zqan #[.agg #[.pointer p], .slice (some ⟨γ 3, 0, none⟩) 1 1] (enters_of Tryz.func43 zqc rfl) rfl e1 rfl rfl rfl rfl (by exact zqbs) (by first | kernel_rfl | simp [go_sem]) ?_ ?_
   ·intro W hC hF
    obtain ⟨mm, rfl⟩ := hC;have hE1 : Full (γ 3) (ints .u8 32 f) 44 (more wr mm) := known hF (List.mem_cons_self ..) (by decide +kernel);refine (zqlu (fun _ => f) (some ⟨γ 3, 0, none⟩) 1 1 p _ (zqz8 hE1) (fun i hi => gf) (by decide)).mono ?_
    rintro e w9 ⟨g, rfl, fg, hb9⟩;exact ⟨_, rfl, ⟨g, rfl⟩, (fun v ev => by cases ev; exact ⟨g, _, rfl, fg, (HPc.out.later (zqk _ _)).later hb9⟩), hb9⟩
   ((first | go_big_quiet_skip | (go_big_quiet_want; go_big_quiet_op; go_big_quiet_on)); refine wpQuiet_nil ?_)
   (repeat (first | (refine zqy rfl ?_; ((first | go_big_quiet_skip | (go_big_quiet_want; go_big_quiet_op; go_big_quiet_on)); refine wpQuiet_nil ?_)) | ((first | refine zql rfl (fun _ => rfl) ?_ | (apply zq9; (focus rfl); (focus rfl); (focus rfl); (focus (intro W hC hF; (skip); go_big_quiet_want; go_big_quiet_op; (first | go_big_quiet_on | (apply Exists.intro; refine ⟨fun _ => ?_, ?_⟩; (focus ((fail))); go_big_quiet_on)); exact wpQuiet_nil rfl)); (focus (first | exact fun _ => ⟨rfl, rfl⟩ | exact fun h => absurd h (by decide))))); ((first | go_big_quiet_skip | (go_big_quiet_want; go_big_quiet_op; go_big_quiet_on)); refine wpQuiet_nil ?_)) | refine zqm rfl (fun _ => rfl) ?_))
   refine zqan #[.agg #[.pointer (some ⟨g1, 0, none⟩)], .slice ob m d] (enters_of Tryz.func43 zqc rfl) rfl e2 rfl rfl rfl rfl (by exact zqbs) (by first | kernel_rfl | simp [go_sem]) ?_ ?_
   ·intro W hC hF
    obtain ⟨mm, rfl⟩ := hC;have hE0 : PcW (zqcg (fun _ => f) 1 :: LL) (.agg #[.pointer (some ⟨g1, 0, none⟩)]) (more wr mm) := known hF (List.mem_cons_self ..) (by decide +kernel);refine (zqlu P ob m d (some ⟨g1, 0, none⟩) _ (HK1.out.later (zqk _ _)) GP.out (by omega)).mono ?_
    rintro e w9 ⟨g, rfl, fg, hb9⟩;exact ⟨_, rfl, ⟨g, rfl⟩, (fun v ev => by cases ev; exact ⟨g, _, rfl, fg, (hE0 _ rfl).later hb9⟩), hb9⟩
   ((first | go_big_quiet_skip | (go_big_quiet_want; go_big_quiet_op; go_big_quiet_on)); refine wpQuiet_nil ?_)
   (repeat (first | (refine zqy rfl ?_; ((first | go_big_quiet_skip | (go_big_quiet_want; go_big_quiet_op; go_big_quiet_on)); refine wpQuiet_nil ?_)) | ((first | refine zql rfl (fun _ => rfl) ?_ | (apply zq9; (focus rfl); (focus rfl); (focus rfl); (focus (intro W hC hF; ((try (have hE0 : PcW (zqcg P m :: zqcg (fun _ => f) 1 :: LL) (.agg #[.pointer (some ⟨g2, 0, none⟩)]) W := known hF (List.mem_cons_self ..) (by decide +kernel)))); go_big_quiet_want; go_big_quiet_op; (first | go_big_quiet_on | (apply Exists.intro; refine ⟨fun _ => ?_, ?_⟩; (focus ((exact Calls.of_more (cT _ _ ((hE0 _ rfl).later (zqk W _)))))); go_big_quiet_on)); exact wpQuiet_nil rfl)); (focus (first | exact fun _ => ⟨rfl, rfl⟩ | exact fun h => absurd h (by decide))))); ((first | go_big_quiet_skip | (go_big_quiet_want; go_big_quiet_op; go_big_quiet_on)); refine wpQuiet_nil ?_)) | refine zqm rfl (fun _ => rfl) ?_))
   (refine zqb7 ?_; rintro _ ⟨mq, rfl⟩ hF; simp only [List.forall_mem_cons] at hF; obtain ⟨-, -⟩ := hF)
   replace hG := Grew.more hG mq;go_wp2;refine ⟨rfl, .tuple #[.string TX, .nilIface], ?_, by first | rfl | rw [hTX], hG⟩
   first | rfl | kernel_rfl | simp [go_sem, results]
theorem zqmb (oa ob : Option Addr) (n c m d : Nat) (f t : Nat -> Int) (N I : Nat -> Int) (w : World) (hP : SeAt w oa n N I) (hN : ∀ j, j < n -> 0 <= N j /\ N j < 4294967296) (hn : n <= 100000) (hm : m <= 100000) (h : chkE n N m ≠ 0) :
  Calls Tryz.prog 18 #[.agg (stC (.slice oa n c) f (.slice ob m d) t)] w fun e w' => ∃ u, e = .returned (.tuple #[.string ⟨#[]⟩, u]) /\ ErV w' u (chkE n N m) /\ Below w.heap.size w w' := by
 go_enter Tryz.func18, Tryz.ntmps18
 go_wp2_with fail;have hG : Below w.heap.size w (w.alloc (.cells (stC (.slice oa n c) f (.slice ob m d) t) 47)) := Grew.alloc (Grew.refl _) _;refine (zqfu oa ob n c m d f t N I _ hn hm (hP.later hG) hN).mono ?_
 rintro e w2 ⟨u, rfl, hu, hb⟩;replace hG := Grew.trans hG hb;have HU := hid1 hu
 rcases hu with ⟨h9, -⟩ | ⟨-, t', x, q, rfl, -⟩
 case inl => exact absurd h9 h
 go_wp2;refine ⟨rfl, .tuple #[.string ⟨#[]⟩, .iface t' x], ?_, ⟨_, rfl, HU.out, hG⟩⟩
 first | rfl | kernel_rfl | simp [go_sem, results]
theorem zqns (oa ob : Option Addr) (n c m d : Nat) (f t : Nat -> Int) (N I : Nat -> Int) (P : Nat -> Nat -> Int) (w : World) (hP : SeAt w oa n N I) (hN : ∀ j, j < n -> 0 <= N j /\ N j < 4294967296) (hI : ∀ j, j < n -> 0 <= I j /\ I j < 4294967296) (hK : K32At w ob m P) (gP : ∀ j, j < m -> Bytes 32 (P j)) (gf : Bytes 32 f) (gt : Bytes 32 t) (h2 : 2 <= n) (hn : n <= 400) (hm : m = 2 * n - 2) (hd : ¬ Twice N n) :
  Calls Tryz.prog 16 #[.agg (stC (.slice oa n c) f (.slice ob m d) t)] w (Rt w (.tuple #[.string (sB n N I f m P t), .nilIface])) := by
 have HP : Hid (SeAt w oa n N I) := hP;have HK : Hid (K32At w ob m P) := hK;have HNI := hid1 (And.intro hN hI);have GP := hid1 gP;have hz := zqkx n N I f m P t;have HM := hid1 hm;have hm2 : m <= 1000 := by omega
 rw [zril];clear hP hK hN hI gP hm
 go_enter Tryz.func16, Tryz.ntmps16
 go_wp2_with fail;have fb : zqd (w.alloc (.cells (stC (.slice oa n c) f (.slice ob m d) t) 47)) w.heap.size = some (.cells (stC (.slice oa n c) f (.slice ob m d) t) 47) := zqf _ _ _ rfl;have hG : Below w.heap.size w (w.alloc (.cells (stC (.slice oa n c) f (.slice ob m d) t) 47)) := Grew.alloc (Grew.refl _) _;generalize w.alloc (.cells (stC (.slice oa n c) f (.slice ob m d) t) 47) = w1 at *;have cB := fun (W : World) (hb : Below w1.heap.size w1 W) => zqqe oa ob n c m d f t N I P W ((HP.out.later hG).later hb) HNI.out.1 HNI.out.2 ((HK.out.later hG).later hb) GP.out gf h2 hn HM.out hd;generalize hBB : catS (sF n N I f m P t) (3 + 2 * n + 2) = B at *;refine (cB _ (Grew.refl _)).mono ?_
 rintro e w2 ⟨rfl, hb⟩;replace fb := zqb hb fb;replace hG := Grew.trans hG hb;clear hb cB;have lb := zqa fb;have cT := fun (p : Option Addr) (W : World) (hc : Pcs W [zqcg (fun _ => t) 1, B] (.pointer p)) => zqld (twoT B t) 2 (.pointer p) W hc (by decide) (by show (ByteArray.empty ++ B ++ zqcg (fun _ => t) 1).size + 2 <= _; rw [ByteArray.size_append, ByteArray.size_append, zqcz, zq83]; omega);generalize hTX : catS (twoT B t) 2 = TX at *;go_wp2_with fail
 refine zqej (fun k => k == 2 || k == 6) (fun k => match k with | 2 => fun u => WSh u | 6 => fun u => WSh u | _ => fun _ => True) (fun k => match k with | 2 => fun u w => PcW [B] u w | 6 => fun u w => PcW [zqcg (fun _ => t) 1, B] u w | _ => fun _ _ => True) (fun k => match k with | 2 => .agg #[.pointer (some ⟨0, 0, none⟩)] | 6 => .agg #[.pointer (some ⟨0, 0, none⟩)] | _ => undef) (fun i hi => ?_) zqc zqc ?_
 ·simp only [Bool.or_eq_true, beq_iff_eq] at hi
  rcases hi with rfl | rfl
  ·exact ⟨0, rfl⟩
  ·exact ⟨0, rfl⟩
 iterate 2 (first | refine zqv rfl ?_ | (refine zqo rfl ?_; apply Exists.intro))
 refine zqo rfl ⟨undef, ?_⟩
 iterate 3 (first | refine zqv rfl ?_ | (refine zqo rfl ?_; apply Exists.intro))
 refine zqo rfl ⟨undef, ?_⟩
 iterate 3 (first | refine zqv rfl ?_ | (refine zqo rfl ?_; apply Exists.intro))
 refine zqbw ?_
 intro γ gv hsv hinj hbase;obtain ⟨g1, e1⟩ := hsv 2 rfl;obtain ⟨g2, e2⟩ := hsv 6 rfl
 (repeat (first | (refine zqy rfl ?_; ((first | go_big_quiet_skip | (go_big_quiet_want; go_big_quiet_op; go_big_quiet_on)); refine wpQuiet_nil ?_)) | ((first | refine zql rfl (fun _ => rfl) ?_ | (apply zq9; (focus rfl); (focus rfl); (focus rfl); (focus (intro W hC hF; (skip); go_big_quiet_want; go_big_quiet_op; (first | go_big_quiet_on | (apply Exists.intro; refine ⟨fun _ => ?_, ?_⟩; (focus ((fail))); go_big_quiet_on)); exact wpQuiet_nil rfl)); (focus (first | exact fun _ => ⟨rfl, rfl⟩ | exact fun h => absurd h (by decide))))); ((first | go_big_quiet_skip | (go_big_quiet_want; go_big_quiet_op; go_big_quiet_on)); refine wpQuiet_nil ?_)) | refine zqm rfl (fun _ => rfl) ?_))
 refine zqan #[.agg #[.pointer none], .string B] (enters_of Tryz.func57 zqc rfl) rfl e1 rfl rfl rfl rfl (by exact zqbs) (by first | kernel_rfl | simp [go_sem]) ?_ ?_
 ·intro W hC hF
  obtain ⟨mm, rfl⟩ := hC;refine (zqeq none B _).mono ?_
  rintro e w9 ⟨g, rfl, fg, hb9⟩;exact ⟨_, rfl, ⟨g, rfl⟩, (fun v ev => by cases ev; exact ⟨g, _, rfl, fg, rfl⟩), hb9⟩
 ((first | go_big_quiet_skip | (go_big_quiet_want; go_big_quiet_op; go_big_quiet_on)); refine wpQuiet_nil ?_)
 (repeat (first | (refine zqy rfl ?_; ((first | go_big_quiet_skip | (go_big_quiet_want; go_big_quiet_op; go_big_quiet_on)); refine wpQuiet_nil ?_)) | ((first | refine zql rfl (fun _ => rfl) ?_ | ((try simp only [Nat.zero_add, Nat.reduceAdd]); apply zqbx zq1; (focus rfl); (focus (intro W; simp only [List.map_toArray, List.map_cons, List.map_nil]; first | (with_reducible exact zqh1 _ W) | exact zqh1 _ W)); (focus (exact zqbs))) | (apply zq9; (focus rfl); (focus rfl); (focus rfl); (focus (intro W hC hF; (skip); go_big_quiet_want; go_big_quiet_op; (first | go_big_quiet_on | (apply Exists.intro; refine ⟨fun _ => ?_, ?_⟩; (focus ((fail))); go_big_quiet_on)); exact wpQuiet_nil rfl)); (focus (first | exact fun _ => ⟨rfl, rfl⟩ | exact fun h => absurd h (by decide))))); ((first | go_big_quiet_skip | (go_big_quiet_want; go_big_quiet_op; go_big_quiet_on)); refine wpQuiet_nil ?_)) | refine zqm rfl (fun _ => rfl) ?_))
 refine zqan #[.agg #[.pointer (some ⟨g1, 0, none⟩)], .slice (some ⟨γ 5, 0, none⟩) 1 1] (enters_of Tryz.func43 zqc rfl) rfl e2 rfl rfl rfl rfl (by exact zqbs) (by first | kernel_rfl | simp [go_sem]) ?_ ?_
 ·intro W hC hF
  obtain ⟨mm, rfl⟩ := hC;have hE0 : PcW [B] (.agg #[.pointer (some ⟨g1, 0, none⟩)]) (more w2 mm) := known hF (List.mem_cons_of_mem _ (List.mem_cons_self ..)) (by decide +kernel);have hE1 : Full (γ 5) (ints .u8 32 t) 44 (more w2 mm) := known hF (List.mem_cons_self ..) (by decide +kernel);refine (zqlu (fun _ => t) (some ⟨γ 5, 0, none⟩) 1 1 (some ⟨g1, 0, none⟩) _ (zqz8 hE1) (fun i hi => gt) (by decide)).mono ?_
  rintro e w9 ⟨g, rfl, fg, hb9⟩;exact ⟨_, rfl, ⟨g, rfl⟩, (fun v ev => by cases ev; exact ⟨g, _, rfl, fg, (hE0 _ rfl).later hb9⟩), hb9⟩
 ((first | go_big_quiet_skip | (go_big_quiet_want; go_big_quiet_op; go_big_quiet_on)); refine wpQuiet_nil ?_)
 (repeat (first | (refine zqy rfl ?_; ((first | go_big_quiet_skip | (go_big_quiet_want; go_big_quiet_op; go_big_quiet_on)); refine wpQuiet_nil ?_)) | ((first | refine zql rfl (fun _ => rfl) ?_ | (apply zq9; (focus rfl); (focus rfl); (focus rfl); (focus (intro W hC hF; ((try (have hE0 : PcW [zqcg (fun _ => t) 1, B] (.agg #[.pointer (some ⟨g2, 0, none⟩)]) W := known hF (List.mem_cons_self ..) (by decide +kernel)))); go_big_quiet_want; go_big_quiet_op; (first | go_big_quiet_on | (apply Exists.intro; refine ⟨fun _ => ?_, ?_⟩; (focus ((exact Calls.of_more (cT _ _ ((hE0 _ rfl).later (zqk W _)))))); go_big_quiet_on)); exact wpQuiet_nil rfl)); (focus (first | exact fun _ => ⟨rfl, rfl⟩ | exact fun h => absurd h (by decide))))); ((first | go_big_quiet_skip | (go_big_quiet_want; go_big_quiet_op; go_big_quiet_on)); refine wpQuiet_nil ?_)) | refine zqm rfl (fun _ => rfl) ?_))
 (refine zqb7 ?_; rintro _ ⟨mq, rfl⟩ hF; simp only [List.forall_mem_cons] at hF; obtain ⟨-, -⟩ := hF)
 replace hG := Grew.more hG mq;go_wp2;refine ⟨rfl, .tuple #[.string TX, .nilIface], ?_, by first | rfl | rw [hBB, hTX], hG⟩
 first | rfl | kernel_rfl | simp [go_sem, results]
theorem zqn7 (oa ob : Option Addr) (n c m d : Nat) (f t : Nat -> Int) (N I : Nat -> Int) (w : World) (hP : SeAt w oa n N I) (hN : ∀ j, j < n -> 0 <= N j /\ N j < 4294967296) (hn : n <= 100000) (hm : m <= 100000) (h : chkE n N m ≠ 0) :
  Calls Tryz.prog 16 #[.agg (stC (.slice oa n c) f (.slice ob m d) t)] w fun e w' => ∃ u, e = .returned (.tuple #[.string ⟨#[]⟩, u]) /\ ErV w' u (chkE n N m) /\ Below w.heap.size w w' := by
 have HP : Hid (SeAt w oa n N I) := hP;clear hP
 go_enter Tryz.func16, Tryz.ntmps16
 go_wp2_with fail;have fb : zqd (w.alloc (.cells (stC (.slice oa n c) f (.slice ob m d) t) 47)) w.heap.size = some (.cells (stC (.slice oa n c) f (.slice ob m d) t) 47) := zqf _ _ _ rfl;have hG : Below w.heap.size w (w.alloc (.cells (stC (.slice oa n c) f (.slice ob m d) t) 47)) := Grew.alloc (Grew.refl _) _;generalize w.alloc (.cells (stC (.slice oa n c) f (.slice ob m d) t) 47) = w1 at *;refine (zqmb oa ob n c m d f t N I _ (HP.out.later hG) hN hn hm h).mono ?_
 rintro e w2 ⟨u, rfl, hu, hb⟩;replace hG := Grew.trans hG hb;have HU := hid1 hu
 rcases hu with ⟨h9, -⟩ | ⟨-, t', x, q, rfl, -⟩
 case inl => exact absurd h9 h
 go_wp2;refine ⟨rfl, .tuple #[.string ⟨#[]⟩, .iface t' x], ?_, ⟨_, rfl, HU.out, hG⟩⟩
 first | rfl | kernel_rfl | simp [go_sem, results]
end Go.Proofs.YtnjghcnhcbobhaaGreatDoor
namespace Go.Proofs.YtnjghcnhcbobhaaGreatDoor
open Go.RowKit Go.Extern
theorem zqo4 : Bytes 32 zqg := fun i _ => by unfold zqg; omega
theorem zrbc {W : World} {g n N : Nat} {t : TypeId} {fr : Nat × Nat} (h : zqd W g = some (.cells (ints .u8 N zqg) t fr)) (hN : n * 32 <= N) : K32At W (some ⟨g, 0, none⟩) n (fun _ => zqg) := zqf4 h hN (fun j hj i hi => by unfold zqg; rfl)
@[go_sem high] theorem zrn9 (w : World) : (Instr.makeSlice 45 (.int .i64 2) (.int .i64 2)).run Tryz.prog w = .ok (.slice (some ⟨w.heap.size, 0, none⟩) 2 2) (w.alloc (.cells (ints .u8 64 zqg) 44)) := by kernel_rfl
theorem zq40 (a b c d : Int) (W : World) : (Instr.buildSlice 42 2 #[(0, .agg #[.int .u32 a, .int .u32 b]), (1, .agg #[.int .u32 c, .int .u32 d])]).run Tryz.prog W = .ok (.slice (some ⟨W.heap.size, 0, none⟩) 2 2) (W.alloc (.cells #[.int .u32 a, .int .u32 b, .int .u32 c, .int .u32 d] 63)) := by kernel_rfl
def zqhe (u v : Value) : Sem Next := do pure (.value (<- Instr.buildSlice 42 2 #[(0, u), (1, v)]))
@[go_sem ↓ high] theorem zqsg (ρ : Operand -> Value) (d : Option Tmp) (x y : Operand) (t : TypeId) (pos : String) (af : Array Edge) (g : Option (Nat × Bool)) :
  execOp ρ ⟨d, .buildSlice 42 2 #[(0, x), (1, y)], t, pos, af, g⟩ = zqhe (ρ x) (ρ y) := by
 unfold execOp zqhe
 simp
@[go_sem high] theorem zq86 (ρ : Operand -> Value) (d : Option Tmp) (x y : Operand) (t : TypeId) (pos : String) (af : Array Edge) (g : Option (Nat × Bool)) :
  execOp ρ ⟨d, .buildSlice 42 2 #[(0, x), (1, y)], t, pos, af, g⟩ = zqhe (ρ x) (ρ y) := zqsg ρ d x y t pos af g
@[go_sem] theorem zq9u (a b c d : Int) (W : World) : (zqhe (.agg #[.int .u32 a, .int .u32 b]) (.agg #[.int .u32 c, .int .u32 d])).run Tryz.prog W = .ok (.value (.slice (some ⟨W.heap.size, 0, none⟩) 2 2)) (W.alloc (.cells #[.int .u32 a, .int .u32 b, .int .u32 c, .int .u32 d] 63)) := by
 unfold zqhe
 simp only [Sem.run_bind, zq40, Result.andThen_ok, Sem.run_pure]
def zqmq (x0 : Value) : Sem Next := do pure (.value (<- Instr.build 63 #[(0, x0)]))
@[go_sem ↓ high] theorem zrjy (ρ : Operand -> Value) (dd : Option Tmp) (x0 : Operand) (t : TypeId) (pos : String) (af : Array Edge) (gg : Option (Nat × Bool)) :
  execOp ρ ⟨dd, .build 63 #[(0, x0)], t, pos, af, gg⟩ = zqmq (ρ x0) := by simp [execOp, zqmq]
@[go_sem high] theorem zrfg (ρ : Operand -> Value) (dd : Option Tmp) (x0 : Operand) (t : TypeId) (pos : String) (af : Array Edge) (gg : Option (Nat × Bool)) :
  execOp ρ ⟨dd, .build 63 #[(0, x0)], t, pos, af, gg⟩ = zqmq (ρ x0) := by simp [execOp, zqmq]
theorem zqtl (a : Int) (w : World) : (Instr.build 63 #[(0, .int .u32 a)]).run Tryz.prog w = .ok (.agg (#[.int .u32 a, .int .u32 0])) w := by kernel_rfl
@[go_sem] theorem zrfq (a : Int) (w : World) : (zqmq (.int .u32 a)).run Tryz.prog w = .ok (.value (.agg (#[.int .u32 a, .int .u32 0]))) w := by
 unfold zqmq;rw [Sem.run_bind, zqtl]
 rfl
attribute [irreducible] zqhe zqmq
theorem zriw {W : World} {g : Nat} {t : TypeId} {fr : Nat × Nat} (h : zqd W g = some (.cells #[.int .u32 1, .int .u32 0, .int .u32 2, .int .u32 0] t fr)) : SeAt W (some ⟨g, 0, none⟩) 2 (fun j => (j : Int) + 1) (fun _ => 0) :=
 .inr ⟨_, rfl, zqa h, fun j hj i hi => by
  have e1 : ((⟨g, 0, none⟩ : Addr).add (j * 2)).add i = ⟨g, j * 2 + i, none⟩ := by
   rw [Go.Deep.add_add];unfold Addr.add
   split <;> simp_all
  rw [e1, cell_of_row W g (j * 2 + i) _ _ _ h]
  rcases (by omega : j = 0 \/ j = 1) with rfl | rfl <;> rcases (by omega : i = 0 \/ i = 1) with rfl | rfl <;> rfl⟩
theorem zqtx (aw : ∀ (w : World), Tabs w -> EtAt w -> Calls Tryz.prog 8 #[] w (Rt w (.bool true))) (w : World) (hT : Tabs w) (hE : EtAt w) :
  Calls Tryz.prog 55 #[] w (Rt w (.bool true)) := by
 go_enter Tryz.func55, Tryz.ntmps55
 go_wp2_with fail;refine (aw _ hT hE).mono ?_
 rintro e w2 ⟨rfl, hb⟩;go_wp2;go_ret;exact ⟨rfl, hb⟩
theorem zqt7 (aw : ∀ (w : World), Tabs w -> EtAt w -> Calls Tryz.prog 55 #[] w (Rt w (.bool true))) (w : World) (hT : Tabs w) (hE : EtAt w) :
  Calls Tryz.prog 14 #[] w (Rt w (.bool true)) := by
 have hz := zrbg 2 (fun j => (j : Int) + 1) (fun _ => 0) zqg 2 (fun _ => zqg) zqg;have cB := fun (g g2 : Nat) (W : World) (h1 : SeAt W (some ⟨g, 0, none⟩) 2 (fun j => (j : Int) + 1) (fun _ => 0)) (h : K32At W (some ⟨g2, 0, none⟩) 2 (fun _ => zqg)) => zqns (some ⟨g, 0, none⟩) (some ⟨g2, 0, none⟩) 2 2 2 2 zqg zqg (fun j => (j : Int) + 1) (fun _ => 0) (fun _ => zqg) W h1 (fun j hj => by omega) (fun j hj => by omega) h (fun _ _ => zqo4) zqo4 zqo4 (by decide) (by decide) rfl (fun ⟨i, hi, k, hk, e⟩ => by simp only at e; omega);generalize sB 2 (fun j => (j : Int) + 1) (fun _ => 0) zqg 2 (fun _ => zqg) zqg = Z at *
 go_enter Tryz.func14, Tryz.ntmps14
 have h1 : SeAt ((w.alloc (.cells #[.int .u32 1, .int .u32 0, .int .u32 2, .int .u32 0] 63)).alloc (.cells (ints .u8 64 zqg) 44)) (some ⟨w.heap.size, 0, none⟩) 2 (fun j => (j : Int) + 1) (fun _ => 0) := zriw (zqi _ (zqf _ _ _ rfl));have hK : K32At ((w.alloc (.cells #[.int .u32 1, .int .u32 0, .int .u32 2, .int .u32 0] 63)).alloc (.cells (ints .u8 64 zqg) 44)) (some ⟨w.heap.size + 1, 0, none⟩) 2 (fun _ => zqg) := zrbc (zqf _ _ _ (by simp)) (by decide);have hG : Below w.heap.size w ((w.alloc (.cells #[.int .u32 1, .int .u32 0, .int .u32 2, .int .u32 0] 63)).alloc (.cells (ints .u8 64 zqg) 44)) := Grew.alloc (Grew.alloc (Grew.refl _) _) _;have cB1 := cB _ _ _ h1 hK;clear cB h1 hK;go_wp2_with fail;refine cB1.mono ?_
 rintro e w1 ⟨rfl, hb⟩;replace hG := Grew.trans hG hb;clear hb cB1;go_wp2_with fail;refine (aw _ (hT.later hG) (hE.later hG)).mono ?_
 rintro e w2 ⟨rfl, hb⟩;replace hG := Grew.trans hG hb;have hz2 : (Z.size : Int) = 148 := by omega
 go_wp2;go_ret;exact ⟨rfl, hG⟩
end Go.Proofs.YtnjghcnhcbobhaaGreatDoor
