/- U19 -/
import Derived.Test.YtnjghcnhcbobhaaGreatDoorB17
import Derived.Test.YtnjghcnhcbobhaaGreatDoorQ12
set_option linter.unusedVariables false
set_option linter.unusedSimpArgs false
set_option maxRecDepth 100000
set_option maxHeartbeats 4000000
namespace Go.Proofs.YtnjghcnhcbobhaaGreatDoor
open Go.RowKit Go.Extern
theorem zqrh (S : ByteArray) (a : Nat) (x : Int) (h : a < S.size) (h1 : byteAt S a = x) : numB 1 x = S.extract a (a + 1) := zqbh (by rw [zqb2, ByteArray.size_extract]; omega) fun i hi => by
 rw [zqb2] at hi;obtain rfl : i = 0 := by omega
 have hb := zqd7 S a;rw [zqas _ _ _ _ (by omega) (by omega), Nat.add_zero, h1, zqf6 _ _ _ (by decide), show 8 * (1 - 1 - 0) = 0 from rfl, Int.pow_zero, Int.ediv_one]
 omega
theorem zqvl (x : Int) (h0 : 0 <= x) (h1 : x < 256) : byteAt (numB 1 x) 0 = x := by
 rw [zqf6 _ _ _ (by decide), show 8 * (1 - 1 - 0) = 0 from rfl, Int.pow_zero, Int.ediv_one]
 omega
theorem zqpz (S : ByteArray) (a n : Nat) (h : a + 32 * n <= S.size) : zqcv (fun j i => byteAt S (a + 32 * j + i)) n = S.extract a (a + 32 * n) := by
 refine zqbh (by rw [zqcb, ByteArray.size_extract]; omega) fun i hi => ?_
 rw [zqcb] at hi;obtain ⟨q, r, hr, rfl⟩ : ∃ q r, r < 32 /\ i = 32 * q + r := ⟨i / 32, i % 32, Nat.mod_lt _ (by decide), by omega⟩
 rw [zqea _ n (fun j _ i _ => by have := zqd7 S (a + 32 * j + i); omega) n (Nat.le_refl _) q (by omega) r hr, zqas _ _ _ _ (by omega) (by omega), Nat.add_assoc]
theorem zqio (S : ByteArray) (a : Nat) (h : a + 32 <= S.size) : zqcv (fun _ i => byteAt S (a + i)) 1 = S.extract a (a + 32) := by
 have h1 := zqpz S a 1 (by omega);refine Eq.trans ?_ h1
 show ByteArray.empty ++ strOf 32 _ = ByteArray.empty ++ strOf 32 _
 rfl
theorem zquv : ByteArray.empty.size = 0 := rfl
section
variable (st lf : Int) (n : Nat) (P : Nat -> Nat -> Int) (t : Nat -> Int)
end
end Go.Proofs.YtnjghcnhcbobhaaGreatDoor
namespace Go.Proofs.YtnjghcnhcbobhaaGreatDoor
open Go.RowKit Go.Lib
def uvC (s : Int) (l : Int) (b : Value) (t : Nat -> Int) : Array Value := (#[Value.int .u32 s, Value.int .u16 l, b] : Array Value) ++ ints .u8 32 t
@[go_sem] theorem uvC_size (s : Int) (l : Int) (b : Value) (t : Nat -> Int) : (uvC s l b t).size = 35 := by kernel_rfl
@[go_sem] theorem uvC_one (ob : Option Addr) (nb cb : Nat) (s : Int) (l : Int) (t : Nat -> Int) : zqal (uvC s l (.slice ob nb cb) t) = true := by kernel_rfl
@[go_sem] theorem uvC_0 (s : Int) (l : Int) (b : Value) (t : Nat -> Int) : (uvC s l b t)[0]? = some (Value.int .u32 s) := by kernel_rfl
@[go_sem] theorem uvC_0' (s : Int) (l : Int) (b : Value) (t : Nat -> Int) (h : 0 < (uvC s l b t).size) : (uvC s l b t)[0] = Value.int .u32 s := Option.some.inj ((Array.getElem?_eq_getElem h).symm.trans (uvC_0 s l b t))
@[go_sem] theorem uvC_set0 (s : Int) (l : Int) (b : Value) (t : Nat -> Int) (s9 : Int) : (uvC s l b t).setIfInBounds 0 (Value.int .u32 s9) = uvC s9 l b t := by kernel_rfl
@[go_sem] theorem uvC_1 (s : Int) (l : Int) (b : Value) (t : Nat -> Int) : (uvC s l b t)[1]? = some (Value.int .u16 l) := by kernel_rfl
@[go_sem] theorem uvC_1' (s : Int) (l : Int) (b : Value) (t : Nat -> Int) (h : 1 < (uvC s l b t).size) : (uvC s l b t)[1] = Value.int .u16 l := Option.some.inj ((Array.getElem?_eq_getElem h).symm.trans (uvC_1 s l b t))
@[go_sem] theorem uvC_set1 (s : Int) (l : Int) (b : Value) (t : Nat -> Int) (l9 : Int) : (uvC s l b t).setIfInBounds 1 (Value.int .u16 l9) = uvC s l9 b t := by kernel_rfl
@[go_sem] theorem uvC_2 (s : Int) (l : Int) (b : Value) (t : Nat -> Int) : (uvC s l b t)[2]? = some (b) := by kernel_rfl
@[go_sem] theorem uvC_2' (s : Int) (l : Int) (b : Value) (t : Nat -> Int) (h : 2 < (uvC s l b t).size) : (uvC s l b t)[2] = b := Option.some.inj ((Array.getElem?_eq_getElem h).symm.trans (uvC_2 s l b t))
@[go_sem] theorem uvC_set2 (s : Int) (l : Int) (b : Value) (t : Nat -> Int) (b9 : Value) : (uvC s l b t).setIfInBounds 2 (b9) = uvC s l b9 t := by kernel_rfl
theorem uvC_ext3 (s : Int) (l : Int) (b : Value) (t : Nat -> Int) : (uvC s l b t).extract 3 (3 + 32) = ints .u8 32 t := by kernel_rfl
@[go_sem ↓ high] theorem load_upd (ρ : Operand -> Value) (d : Option Tmp) (x : Operand) (t : TypeId) (pos : String) (af : Array Edge) (g : Option (Nat × Bool)) :
  execOp ρ ⟨d, .load 227 x, t, pos, af, g⟩ = zqq 227 (ρ x) := zqax _ ρ d x t pos af g
@[go_sem high] theorem load_upd' (ρ : Operand -> Value) (d : Option Tmp) (x : Operand) (t : TypeId) (pos : String) (af : Array Edge) (g : Option (Nat × Bool)) :
  execOp ρ ⟨d, .load 227 x, t, pos, af, g⟩ = zqq 227 (ρ x) := zqax _ ρ d x t pos af g
@[go_sem] theorem load_upd_at (g : Nat) (w : World) : (zqq 227 (.pointer (some ⟨g, 0, none⟩))).run Tryz.prog w = (zqau Tryz.prog 227 g 35 w (zqd w g)).andThen fun v w' => .ok (.value v) w' := by
 rw [zq6, zqa3 Tryz.underlying227 rfl zqb g w]
@[go_sem] theorem load_upd_of (g : Nat) (w : World) (cs : Array Value) (t' : TypeId) (fr : Nat × Nat) (h : cs.size = 35) : zqau Tryz.prog 227 g 35 w (some (.cells cs t' fr)) = .ok (.agg cs) w := zqam cs t' fr h
@[go_sem ↓ high] theorem store_upd (ρ : Operand -> Value) (d : Option Tmp) (x y : Operand) (t : TypeId) (pos : String) (af : Array Edge) (g : Option (Nat × Bool)) :
  execOp ρ ⟨d, .store 227 x y, t, pos, af, g⟩ = zqt 227 (ρ x) (ρ y) := zqat _ ρ d x y t pos af g
@[go_sem high] theorem store_upd' (ρ : Operand -> Value) (d : Option Tmp) (x y : Operand) (t : TypeId) (pos : String) (af : Array Edge) (g : Option (Nat × Bool)) :
  execOp ρ ⟨d, .store 227 x y, t, pos, af, g⟩ = zqt 227 (ρ x) (ρ y) := zqat _ ρ d x y t pos af g
@[go_sem] theorem store_upd_at (g : Nat) (cs : Array Value) (w : World) : (zqt 227 (.pointer (some ⟨g, 0, none⟩)) (.agg cs)).run Tryz.prog w = (zqan Tryz.prog 227 g 35 (.agg cs) w (zqd w g)).andThen fun _ w' => .ok .skip w' := by
 rw [zq8, zqa6 zqb g cs w]
@[go_sem] theorem store_upd_of (g : Nat) (w : World) (old cs : Array Value) (t' : TypeId) (h1 : old.size = 35) (h2 : cs.size = 35) (h3 : zqal cs = true) :
  zqan Tryz.prog 227 g 35 (.agg cs) w (some (.cells old t' (0, 0))) = .ok () (w.setRow g cs) := zqaq old cs t' h1 h2 h3
@[go_sem high] theorem zero_upd' (w : World) : (zeroValue 227).run Tryz.prog w = .ok (.agg (uvC 0 0 (.slice none 0 0) zqe)) w := by kernel_rfl
@[go_sem ↓ high] theorem zero_upd (w : World) : (zeroValue 227).run Tryz.prog w = .ok (.agg (uvC 0 0 (.slice none 0 0) zqe)) w := by kernel_rfl
@[go_sem] theorem none_upd (w : World) : (zqb4 227).run Tryz.prog w = .ok (.value (.agg (uvC 0 0 (.slice none 0 0) zqe))) w := by kernel_rfl
@[go_sem] theorem load_key_3 (g : Nat) (w : World) : (zqq 44 (.pointer (some ⟨g, 3, none⟩))).run Tryz.prog w = (zqa8 Tryz.prog 44 g 3 32 w (zqd w g)).andThen fun v w' => .ok (.value v) w' := by
 rw [zq6, zqde Tryz.underlying44 rfl zqb g 3 w]
@[go_sem] theorem load_uvC_upk3 (g : Nat) (w : World) (s : Int) (l : Int) (b : Value) (t : Nat -> Int) (t' : TypeId) (fr : Nat × Nat) : zqa8 Tryz.prog 44 g 3 32 w (some (.cells (uvC s l b t) t' fr)) = .ok (.agg (ints .u8 32 t)) w := by
 unfold zqa8
 simp only [uvC_size]
 rw [if_pos (by decide), uvC_ext3]
@[go_sem] theorem load_k32_3 (g : Nat) (w : World) : (zqq 43 (.pointer (some ⟨g, 3, none⟩))).run Tryz.prog w = (zqa8 Tryz.prog 43 g 3 32 w (zqd w g)).andThen fun v w' => .ok (.value v) w' := by
 rw [zq6, zqde Tryz.underlying43 rfl zqb g 3 w]
@[go_sem] theorem load_uvC_upq3 (g : Nat) (w : World) (s : Int) (l : Int) (b : Value) (t : Nat -> Int) (t' : TypeId) (fr : Nat × Nat) : zqa8 Tryz.prog 43 g 3 32 w (some (.cells (uvC s l b t) t' fr)) = .ok (.agg (ints .u8 32 t)) w := by
 unfold zqa8
 simp only [uvC_size]
 rw [if_pos (by decide), uvC_ext3]
def upB4 (x0 : Value) (x1 : Value) (x2 : Value) (x3 : Value) : Sem Next := do pure (.value (<- Instr.build 227 #[(0, x0), (1, x1), (2, x2), (3, x3)]))
@[go_sem ↓ high] theorem op_upB4 (ρ : Operand -> Value) (dd : Option Tmp) (x0 x1 x2 x3 : Operand) (t : TypeId) (pos : String) (af : Array Edge) (gg : Option (Nat × Bool)) :
  execOp ρ ⟨dd, .build 227 #[(0, x0), (1, x1), (2, x2), (3, x3)], t, pos, af, gg⟩ = upB4 (ρ x0) (ρ x1) (ρ x2) (ρ x3) := by simp [execOp, upB4]
@[go_sem high] theorem op_upB4' (ρ : Operand -> Value) (dd : Option Tmp) (x0 x1 x2 x3 : Operand) (t : TypeId) (pos : String) (af : Array Edge) (gg : Option (Nat × Bool)) :
  execOp ρ ⟨dd, .build 227 #[(0, x0), (1, x1), (2, x2), (3, x3)], t, pos, af, gg⟩ = upB4 (ρ x0) (ρ x1) (ρ x2) (ρ x3) := by simp [execOp, upB4]
theorem runb_upB4 (s : Int) (l : Int) (ob : Option Addr) (nb cb : Nat) (t : Nat -> Int) (w : World) : (Instr.build 227 #[(0, .int .u32 s), (1, .int .u16 l), (2, .slice ob nb cb), (3, .agg (ints .u8 32 t))]).run Tryz.prog w = .ok (.agg (uvC s l (.slice ob nb cb) t)) w := by kernel_rfl
@[go_sem] theorem run_upB4 (s : Int) (l : Int) (ob : Option Addr) (nb cb : Nat) (t : Nat -> Int) (w : World) : (upB4 (.int .u32 s) (.int .u16 l) (.slice ob nb cb) (.agg (ints .u8 32 t))).run Tryz.prog w = .ok (.value (.agg (uvC s l (.slice ob nb cb) t))) w := by
 unfold upB4;rw [Sem.run_bind, runb_upB4]
 rfl
def upB1 (x2 : Value) : Sem Next := do pure (.value (<- Instr.build 227 #[(2, x2)]))
@[go_sem ↓ high] theorem op_upB1 (ρ : Operand -> Value) (dd : Option Tmp) (x2 : Operand) (t : TypeId) (pos : String) (af : Array Edge) (gg : Option (Nat × Bool)) :
  execOp ρ ⟨dd, .build 227 #[(2, x2)], t, pos, af, gg⟩ = upB1 (ρ x2) := by simp [execOp, upB1]
@[go_sem high] theorem op_upB1' (ρ : Operand -> Value) (dd : Option Tmp) (x2 : Operand) (t : TypeId) (pos : String) (af : Array Edge) (gg : Option (Nat × Bool)) :
  execOp ρ ⟨dd, .build 227 #[(2, x2)], t, pos, af, gg⟩ = upB1 (ρ x2) := by simp [execOp, upB1]
theorem runb_upB1 (ob : Option Addr) (nb cb : Nat) (w : World) : (Instr.build 227 #[(2, .slice ob nb cb)]).run Tryz.prog w = .ok (.agg (uvC 0 0 (.slice ob nb cb) zqe)) w := by kernel_rfl
@[go_sem] theorem run_upB1 (ob : Option Addr) (nb cb : Nat) (w : World) : (upB1 (.slice ob nb cb)).run Tryz.prog w = .ok (.value (.agg (uvC 0 0 (.slice ob nb cb) zqe))) w := by
 unfold upB1;rw [Sem.run_bind, runb_upB1]
 rfl
attribute [irreducible] uvC upB4 upB1
end Go.Proofs.YtnjghcnhcbobhaaGreatDoor
namespace Go.Proofs.YtnjghcnhcbobhaaGreatDoor
open Go.RowKit Go.Extern
def twoT (B : ByteArray) (t : Nat -> Int) : Nat -> ByteArray
 | 0 => B
 | _ => zqcv (fun _ => t) 1
end Go.Proofs.YtnjghcnhcbobhaaGreatDoor
namespace Go.Proofs.YtnjghcnhcbobhaaGreatDoor
open Go.RowKit Go.Extern
open Classical in
noncomputable def dupN (N : Nat -> Int) (n : Nat) : Int := if Twice N n then 15 else 0
theorem zqf0 {N : Nat -> Int} {n : Nat} (h : Twice N n) : dupN N n = 15 := if_pos h
theorem zqgq {N : Nat -> Int} {n : Nat} (h : ¬ Twice N n) : dupN N n = 0 := if_neg h
theorem zqn6 {N M : Nat -> Int} {n : Nat} (h : ∀ j, j < n -> N j = M j) : dupN N n = dupN M n := by
 by_cases hd : Twice N n
 ·rw [zqf0 hd, zqf0 ((Twice.congr h).1 hd)]
 ·rw [zqgq hd, zqgq (fun h2 => hd ((Twice.congr h).2 h2))]
noncomputable def chkE (n : Nat) (N : Nat -> Int) (m : Nat) : Int := if n < 2 \/ 1024 < n then 4 else if dupN N n = 15 then 15 else if m ≠ 2 * n - 2 then 6 else 0
def sF (n : Nat) (N I f : Nat -> Int) (m : Nat) (P : Nat -> Nat -> Int) (t : Nat -> Int) : Nat -> ByteArray
 | 0 => numB 1 1
 | 1 => numB 1 2
 | 2 => numB 2 (n : Int)
 | j + 3 => if j < 2 * n then (if j % 2 = 0 then numB 4 (N (j / 2)) else numB 4 (I (j / 2))) else if j = 2 * n then zqcv (fun _ => f) 1 else if j = 2 * n + 1 then zqcv P m else zqcv (fun _ => t) 1
section
variable (n : Nat) (N I f : Nat -> Int) (m : Nat) (P : Nat -> Nat -> Int) (t : Nat -> Int)
theorem zqkd (k : Nat) (h : k < n) : sF n N I f m P t (3 + 2 * k) = numB 4 (N k) := by
 rw [show 3 + 2 * k = 2 * k + 3 by omega]
 show (if 2 * k < 2 * n then _ else _) = _
 rw [if_pos (by omega), if_pos (by omega), show 2 * k / 2 = k by omega]
theorem zqrm (k : Nat) (h : k < n) : sF n N I f m P t (3 + 2 * k + 1) = numB 4 (I k) := by
 rw [show 3 + 2 * k + 1 = (2 * k + 1) + 3 by omega]
 show (if 2 * k + 1 < 2 * n then _ else _) = _
 rw [if_pos (by omega), if_neg (by omega), show (2 * k + 1) / 2 = k by omega]
theorem sF_f : sF n N I f m P t (3 + 2 * n) = zqcv (fun _ => f) 1 := by
 rw [show 3 + 2 * n = 2 * n + 3 by omega]
 show (if 2 * n < 2 * n then _ else _) = _
 rw [if_neg (by omega), if_pos rfl]
theorem sF_p : sF n N I f m P t (3 + 2 * n + 1) = zqcv P m := by
 rw [show 3 + 2 * n + 1 = (2 * n + 1) + 3 by omega]
 show (if 2 * n + 1 < 2 * n then _ else _) = _
 rw [if_neg (by omega), if_neg (by omega), if_pos rfl]
theorem sF_t : sF n N I f m P t (3 + 2 * n + 2) = zqcv (fun _ => t) 1 := by
 rw [show 3 + 2 * n + 2 = (2 * n + 2) + 3 by omega]
 show (if 2 * n + 2 < 2 * n then _ else _) = _
 rw [if_neg (by omega), if_neg (by omega), if_neg (by omega)]
theorem zrfy (k : Nat) (h : k < n) : revL (sF n N I f m P t) (3 + 2 * (k + 1)) = numB 4 (I k) :: numB 4 (N k) :: revL (sF n N I f m P t) (3 + 2 * k) := by
 rw [show 3 + 2 * (k + 1) = 3 + 2 * k + 1 + 1 by omega]
 show sF n N I f m P t (3 + 2 * k + 1) :: sF n N I f m P t (3 + 2 * k) :: _ = _
 rw [zqrm n N I f m P t k h, zqkd n N I f m P t k h]
theorem zq31 : revL (sF n N I f m P t) (3 + 2 * 0) = [numB 2 (n : Int), numB 1 2, numB 1 1] := rfl
theorem zrbt : revL (sF n N I f m P t) (3 + 2 * n + 2) = zqcv P m :: zqcv (fun _ => f) 1 :: revL (sF n N I f m P t) (3 + 2 * n) := by
 show sF n N I f m P t (3 + 2 * n + 1) :: sF n N I f m P t (3 + 2 * n) :: _ = _
 rw [sF_p, sF_f]
theorem zqmy : ∀ k, k <= n -> (catS (sF n N I f m P t) (3 + 2 * k)).size = 4 + 8 * k
 | 0, _ => by
  show (ByteArray.empty ++ numB 1 1 ++ numB 1 2 ++ numB 2 (n : Int)).size = _
  simp only [ByteArray.size_append, zqb2, zquv]
 | k + 1, h => by
  rw [show 3 + 2 * (k + 1) = 3 + 2 * k + 1 + 1 by omega]
  show (catS (sF n N I f m P t) (3 + 2 * k) ++ sF n N I f m P t (3 + 2 * k) ++ sF n N I f m P t (3 + 2 * k + 1)).size = _
  rw [ByteArray.size_append, ByteArray.size_append, zqmy k (by omega), zqrm n N I f m P t k (by omega), zqkd n N I f m P t k (by omega), zqb2, zqb2]
  omega
theorem zqul : (catS (sF n N I f m P t) (3 + 2 * n + 1)).size = 36 + 8 * n := by
 show (catS (sF n N I f m P t) (3 + 2 * n) ++ sF n N I f m P t (3 + 2 * n)).size = _
 rw [ByteArray.size_append, zqmy n N I f m P t n (Nat.le_refl _), sF_f, zqcb]
 omega
theorem zqk3 : (catS (sF n N I f m P t) (3 + 2 * n + 2)).size = 36 + 8 * n + 32 * m := by
 show (catS (sF n N I f m P t) (3 + 2 * n + 1) ++ sF n N I f m P t (3 + 2 * n + 1)).size = _
 rw [ByteArray.size_append, zqul, sF_p, zqcb]
def sB : ByteArray := catS (sF n N I f m P t) (3 + 2 * n + 3)
theorem zq08 : sB n N I f m P t = catS (sF n N I f m P t) (3 + 2 * n + 2) ++ zqcv (fun _ => t) 1 := by
 show catS (sF n N I f m P t) (3 + 2 * n + 2) ++ sF n N I f m P t (3 + 2 * n + 2) = _
 rw [sF_t]
theorem zqs8 : (sB n N I f m P t).size = 68 + 8 * n + 32 * m := by
 rw [zq08, ByteArray.size_append, zqk3, zqcb]
 omega
end
def seNI (S : ByteArray) : Int := beK (S.extract 2 4) (S.extract 2 4).size
def seN (S : ByteArray) : Nat := (seNI S).toNat
def sNm (S : ByteArray) (j : Nat) : Int := beK (S.extract (4 + 8 * j) (4 + 8 * j + 4)) (S.extract (4 + 8 * j) (4 + 8 * j + 4)).size
def sId (S : ByteArray) (j : Nat) : Int := beK (S.extract (4 + 8 * j + 4) (4 + 8 * j + 4 + 4)) (S.extract (4 + 8 * j + 4) (4 + 8 * j + 4 + 4)).size
def sFr (S : ByteArray) (i : Nat) : Int := byteAt S (4 + 8 * seN S + i)
def sPk (S : ByteArray) (j i : Nat) : Int := byteAt S (36 + 8 * seN S + 32 * j + i)
def sTg (S : ByteArray) (i : Nat) : Int := byteAt S (72 * seN S - 28 + i)
noncomputable def scE (S : ByteArray) : Int :=
 if S.size < 4 then 1 else if byteAt S 0 ≠ 1 then 3 else if byteAt S 1 ≠ 2 then 14 else if seN S < 2 \/ 1024 < seN S then 4
 else if S.size < 72 * seN S + 4 then 1 else if 72 * seN S + 4 < S.size then 2 else dupN (sNm S) (seN S)
theorem zq7z (S : ByteArray) : 0 <= seNI S /\ seNI S <= 65535 := zq2z (ext_size S 2 2)
theorem zrgm (S : ByteArray) : ((seN S : Nat) : Int) = seNI S := by have := zq7z S; unfold seN; omega
theorem zq7q (S : ByteArray) (j : Nat) : 0 <= sNm S j /\ sNm S j < 4294967296 := zqtd _ (ext_size S (4 + 8 * j) 4)
theorem zq9c (S : ByteArray) (j : Nat) : 0 <= sId S j /\ sId S j < 4294967296 := zqtd _ (ext_size S (4 + 8 * j + 4) 4)
theorem zrgj (S : ByteArray) : Bytes 32 (sFr S) := fun i _ => by have := zqd7 S (4 + 8 * seN S + i); unfold sFr; omega
theorem zrhl (S : ByteArray) (j : Nat) : Bytes 32 (sPk S j) := fun i _ => by have := zqd7 S (36 + 8 * seN S + 32 * j + i); unfold sPk; omega
theorem zrhy (S : ByteArray) : Bytes 32 (sTg S) := fun i _ => by have := zqd7 S (72 * seN S - 28 + i); unfold sTg; omega
section
variable (n : Nat) (N I f : Nat -> Int) (m : Nat) (P : Nat -> Nat -> Int) (t : Nat -> Int)
theorem zqti : byteAt (sB n N I f m P t) 0 = 1 := by
 have := zqfs (sF n N I f m P t) (3 + 2 * n + 3) 0 (by omega) (a := 0) rfl 0 (by show 0 < (numB 1 1).size; rw [zqb2]; decide);rw [Nat.add_zero] at this;exact this.trans (zqvl 1 (by decide) (by decide))
theorem zqz0 : byteAt (sB n N I f m P t) 1 = 2 := by
 have := zqfs (sF n N I f m P t) (3 + 2 * n + 3) 1 (by omega) (a := 1) (by show (ByteArray.empty ++ numB 1 1).size = 1; simp only [ByteArray.size_append, zqb2, zquv]) 0 (by show 0 < (numB 1 2).size; rw [zqb2]; decide);rw [Nat.add_zero] at this;exact this.trans (zqvl 2 (by decide) (by decide))
theorem zrk3 (h : n <= 65535) : seNI (sB n N I f m P t) = (n : Int) := by
 unfold seNI;have := zqtp (sF n N I f m P t) (3 + 2 * n + 3) 2 (by omega) (a := 2) (d := 2) (by show (ByteArray.empty ++ numB 1 1 ++ numB 1 2).size = 2; simp only [ByteArray.size_append, zqb2, zquv]) (zqb2 _ _);rw [show (sB n N I f m P t).extract 2 4 = numB 2 (n : Int) from this, zqln, show (2 : Int) ^ (8 * 2) = 65536 by decide];exact Int.emod_eq_of_lt (by omega) (by omega)
theorem sB_n (h : n <= 65535) : seN (sB n N I f m P t) = n := by
 unfold seN;rw [zrk3 n N I f m P t h, Int.toNat_natCast]
theorem zrgn (j : Nat) (hj : j < n) (h : 0 <= N j /\ N j < 4294967296) : sNm (sB n N I f m P t) j = N j := by
 unfold sNm;have := zqtp (sF n N I f m P t) (3 + 2 * n + 3) (3 + 2 * j) (by omega) (a := 4 + 8 * j) (d := 4) (zqmy n N I f m P t j (by omega)) (by rw [zqkd n N I f m P t j hj, zqb2]);rw [show (sB n N I f m P t).extract (4 + 8 * j) (4 + 8 * j + 4) = numB 4 (N j) from this.trans (zqkd n N I f m P t j hj), zqln, show (2 : Int) ^ (8 * 4) = 4294967296 by decide];exact Int.emod_eq_of_lt h.1 h.2
theorem zrlc (j : Nat) (hj : j < n) (h : 0 <= I j /\ I j < 4294967296) : sId (sB n N I f m P t) j = I j := by
 unfold sId;have := zqtp (sF n N I f m P t) (3 + 2 * n + 3) (3 + 2 * j + 1) (by omega) (a := 4 + 8 * j + 4) (d := 4) (by
  show (catS (sF n N I f m P t) (3 + 2 * j) ++ sF n N I f m P t (3 + 2 * j)).size = _
  rw [ByteArray.size_append, zqmy n N I f m P t j (by omega), zqkd n N I f m P t j hj, zqb2]) (by rw [zqrm n N I f m P t j hj, zqb2])
 rw [show (sB n N I f m P t).extract (4 + 8 * j + 4) (4 + 8 * j + 4 + 4) = numB 4 (I j) from this.trans (zqrm n N I f m P t j hj), zqln, show (2 : Int) ^ (8 * 4) = 4294967296 by decide];exact Int.emod_eq_of_lt h.1 h.2
theorem zrkw (h : n <= 65535) (hf : Bytes 32 f) (i : Nat) (hi : i < 32) : sFr (sB n N I f m P t) i = f i := by
 unfold sFr;rw [sB_n n N I f m P t h];have := zqfs (sF n N I f m P t) (3 + 2 * n + 3) (3 + 2 * n) (by omega) (a := 4 + 8 * n) (zqmy n N I f m P t n (Nat.le_refl _)) i (by rw [sF_f, zqcb]; omega);refine this.trans ?_
 rw [sF_f];have h2 := zqea (fun _ => f) 1 (fun _ _ => hf) 1 (Nat.le_refl _) 0 (by decide) i hi;rw [Nat.mul_zero, Nat.zero_add] at h2;exact h2
theorem zrla (h : n <= 65535) (hP : ∀ j, j < m -> Bytes 32 (P j)) (j i : Nat) (hj : j < m) (hi : i < 32) : sPk (sB n N I f m P t) j i = P j i := by
 unfold sPk;rw [sB_n n N I f m P t h];have := zqfs (sF n N I f m P t) (3 + 2 * n + 3) (3 + 2 * n + 1) (by omega) (a := 36 + 8 * n) (zqul n N I f m P t) (32 * j + i) (by rw [sF_p, zqcb]; omega);rw [Nat.add_assoc];refine this.trans ?_
 rw [sF_p];exact zqea P m hP m (Nat.le_refl _) j hj i hi
theorem zrlk (h : n <= 65535) (h2 : 2 <= n) (hm : m = 2 * n - 2) (ht : Bytes 32 t) (i : Nat) (hi : i < 32) : sTg (sB n N I f m P t) i = t i := by
 unfold sTg;rw [sB_n n N I f m P t h];have := zqfs (sF n N I f m P t) (3 + 2 * n + 3) (3 + 2 * n + 2) (by omega) (a := 36 + 8 * n + 32 * m) (zqk3 n N I f m P t) i (by rw [sF_t, zqcb]; omega);rw [show 72 * n - 28 + i = 36 + 8 * n + 32 * m + i by omega];refine this.trans ?_
 rw [sF_t];have h2 := zqea (fun _ => t) 1 (fun _ _ => ht) 1 (Nat.le_refl _) 0 (by decide) i hi;rw [Nat.mul_zero, Nat.zero_add] at h2;exact h2
theorem zrlg (h1 : 2 <= n) (h2 : n <= 1024) (hm : m = 2 * n - 2) (hN : ∀ j, j < n -> 0 <= N j /\ N j < 4294967296) : scE (sB n N I f m P t) = dupN N n := by
 unfold scE;rw [zqs8, sB_n n N I f m P t (by omega), if_neg (by omega), if_neg (fun h => h (zqti n N I f m P t)), if_neg (fun h => h (zqz0 n N I f m P t)), if_neg (by omega), if_neg (by omega), if_neg (by omega)];exact zqn6 fun j hj => zrgn n N I f m P t j hj (hN j hj)
end
theorem zq7i {S : ByteArray} {n : Nat} (h0 : byteAt S 0 = 1) (h1 : byteAt S 1 = 2) (hn : seN S = n) (hn1 : 2 <= n) (hn2 : n <= 1024) (hs : S.size = 72 * n + 4) (m : Nat) (hm : m < S.size) : scE (S.extract 0 m) = 1 := by
 have hsz : (S.extract 0 m).size = m := by rw [ByteArray.size_extract]; omega
 have hb : ∀ i, i < m -> byteAt (S.extract 0 m) i = byteAt S i := fun i hi => by rw [zqas _ _ _ _ (by omega) (by omega), Nat.zero_add]
 unfold scE
 by_cases c : m < 4
 ·rw [if_pos (by omega)]
 have hp2 : seN (S.extract 0 m) = n := by
  rw [<- hn];unfold seN seNI;rw [zqva (m := m) (by omega) (by omega) (by omega) hb]
 rw [if_neg (by omega), hb 0 (by omega), hb 1 (by omega), if_neg (fun h => h h0), if_neg (fun h => h h1), hp2, if_neg (by omega), if_pos (by omega)]
theorem zrc4 {S : ByteArray} {n : Nat} (h0 : byteAt S 0 = 1) (h1 : byteAt S 1 = 2) (hn : seN S = n) (hn1 : 2 <= n) (hn2 : n <= 1024) (hs : S.size = 72 * n + 4) (X : ByteArray) (hX : 0 < X.size) : scE (S ++ X) = 2 := by
 have hsz : (S ++ X).size = S.size + X.size := ByteArray.size_append ..;have hb : ∀ i, i < S.size -> byteAt (S ++ X) i = byteAt S i := fun i hi => zqc4 _ _ _ hi;have hp2 : seN (S ++ X) = n := by
  rw [<- hn];unfold seN seNI;rw [zqva (m := S.size) (by omega) (by omega) (by omega) hb]
 unfold scE;rw [if_neg (by omega), hb 0 (by omega), hb 1 (by omega), if_neg (fun h => h h0), if_neg (fun h => h h1), hp2, if_neg (by omega), if_neg (by omega), if_pos (by omega)]
theorem zq5f {S : ByteArray} (h : scE S = 0) : 4 <= S.size /\ byteAt S 0 = 1 /\ byteAt S 1 = 2 /\ 2 <= seN S /\ seN S <= 1024 /\ S.size = 72 * seN S + 4 /\ dupN (sNm S) (seN S) = 0 := by
 unfold scE at h
 by_cases c1 : S.size < 4
 ·rw [if_pos c1] at h; cases h
 by_cases c2 : byteAt S 0 ≠ 1
 ·rw [if_neg c1, if_pos c2] at h; cases h
 by_cases c3 : byteAt S 1 ≠ 2
 ·rw [if_neg c1, if_neg c2, if_pos c3] at h; cases h
 by_cases c4 : seN S < 2 \/ 1024 < seN S
 ·rw [if_neg c1, if_neg c2, if_neg c3, if_pos c4] at h; cases h
 by_cases c5 : S.size < 72 * seN S + 4
 ·rw [if_neg c1, if_neg c2, if_neg c3, if_neg c4, if_pos c5] at h; cases h
 by_cases c6 : 72 * seN S + 4 < S.size
 ·rw [if_neg c1, if_neg c2, if_neg c3, if_neg c4, if_neg c5, if_pos c6] at h; cases h
 rw [if_neg c1, if_neg c2, if_neg c3, if_neg c4, if_neg c5, if_neg c6] at h;exact ⟨by omega, Classical.not_not.1 c2, Classical.not_not.1 c3, by omega, by omega, by omega, h⟩
theorem zq2a {S : ByteArray} (h : scE S = 0) : sB (seN S) (sNm S) (sId S) (sFr S) (2 * seN S - 2) (sPk S) (sTg S) = S := by
 obtain ⟨c1, b0, b1, n1, n2, hs, -⟩ := zq5f h;have hn := zrgm S;have key : ∀ k, k <= seN S -> catS (sF (seN S) (sNm S) (sId S) (sFr S) (2 * seN S - 2) (sPk S) (sTg S)) (3 + 2 * k) = S.extract 0 (4 + 8 * k) := by
  intro k
  induction k with
  | zero =>
   intro _
   show ByteArray.empty ++ numB 1 1 ++ numB 1 2 ++ numB 2 (seN S : Int) = S.extract 0 4
   have e0 : ByteArray.empty = S.extract 0 0 := zqbh (by rw [ByteArray.size_extract]; rfl) fun i hi => absurd hi (Nat.not_lt_zero _);have e4 : numB 2 (seN S : Int) = S.extract 2 4 := by rw [hn]; exact zqoo S 2 4 2 rfl (by decide) (by omega)
   rw [e4, e0, zqrh S 0 1 (by omega) b0, zqrh S 1 2 (by omega) b1, zqfb S 0 (0 + 1) (by decide) (by omega), zqfb S 1 (1 + 1) (by decide) (by omega), zqfb S 2 4 (by decide) (by omega)]
  | succ k ih =>
   intro hk;rw [show 3 + 2 * (k + 1) = 3 + 2 * k + 1 + 1 by omega]
   show catS _ (3 + 2 * k) ++ sF _ _ _ _ _ _ _ (3 + 2 * k) ++ sF _ _ _ _ _ _ _ (3 + 2 * k + 1) = _
   rw [ih (by omega), zqkd _ _ _ _ _ _ _ k (by omega), zqrm _ _ _ _ _ _ _ k (by omega)];have e1 : numB 4 (sNm S k) = S.extract (4 + 8 * k) (4 + 8 * k + 4) := zqoo S _ _ 4 (by omega) (by omega) (by omega);have e2 : numB 4 (sId S k) = S.extract (4 + 8 * k + 4) (4 + 8 * k + 4 + 4) := zqoo S _ _ 4 (by omega) (by omega) (by omega);rw [e1, e2, zqfb S _ _ (by omega) (by omega), zqfb S _ _ (by omega) (by omega), show 4 + 8 * k + 4 + 4 = 4 + 8 * (k + 1) by omega]
 have k0 := key (seN S) (Nat.le_refl _);have e5 : zqcv (fun _ => sFr S) 1 = S.extract (4 + 8 * seN S) (4 + 8 * seN S + 32) := zqio S (4 + 8 * seN S) (by omega);have e6 : zqcv (sPk S) (2 * seN S - 2) = S.extract (36 + 8 * seN S) (36 + 8 * seN S + 32 * (2 * seN S - 2)) := zqpz S (36 + 8 * seN S) _ (by omega);have e7 : zqcv (fun _ => sTg S) 1 = S.extract (72 * seN S - 28) (72 * seN S - 28 + 32) := zqio S (72 * seN S - 28) (by omega);rw [zq08]
 show catS _ (3 + 2 * seN S) ++ sF _ _ _ _ _ _ _ (3 + 2 * seN S) ++ sF _ _ _ _ _ _ _ (3 + 2 * seN S + 1) ++ _ = _
 rw [k0, sF_f, sF_p, e5, e6, e7, zqfb S _ _ (by omega) (by omega), show 4 + 8 * seN S + 32 = 36 + 8 * seN S by omega, zqfb S _ _ (by omega) (by omega), show 36 + 8 * seN S + 32 * (2 * seN S - 2) = 72 * seN S - 28 by omega, zqfb S _ _ (by omega) (by omega), show 72 * seN S - 28 + 32 = S.size by omega, zqvy]
end Go.Proofs.YtnjghcnhcbobhaaGreatDoor
namespace Go.Proofs.YtnjghcnhcbobhaaGreatDoor
open Go.RowKit Go.Lib
def seL (N I : Nat -> Int) : Nat -> List Value
 | 0 => []
 | n + 1 => seL N I n ++ [Value.int .u32 (N n), Value.int .u32 (I n)]
theorem zqpn (N I : Nat -> Int) : ∀ n, (seL N I n).length = n * 2
 | 0 => rfl
 | n + 1 => by
  show (seL N I n ++ _).length = _
  rw [List.length_append, zqpn N I n]
  simp
  omega
theorem zqzf (N I : Nat -> Int) (j i : Nat) (hi : i < 2) : ∀ n, j < n -> (seL N I n)[j * 2 + i]? = (#[Value.int .u32 (N j), Value.int .u32 (I j)] : Array Value)[i]?
 | 0, h => absurd h (Nat.not_lt_zero _)
 | n + 1, h => by
  show (seL N I n ++ _)[_]? = _
  by_cases hj : j < n
  ·rw [List.getElem?_append_left (by rw [zqpn]; omega)]
   exact zqzf N I j i hi n hj
  ·obtain rfl : j = n := by omega
   rw [List.getElem?_append_right (by rw [zqpn]; omega), zqpn, show j * 2 + i - j * 2 = i by omega]
   rcases (by omega : i = 0 \/ i = 1) with rfl | rfl <;> rfl
def SeAt (w : World) (oa : Option Addr) (n : Nat) (N I : Nat -> Int) : Prop :=
 n = 0 \/ ∃ ad : Addr, oa = some ad /\ ad.block < w.heap.size /\ ∀ j, j < n -> ∀ i, i < 2 -> w.cell? ((ad.add (j * 2)).add i) = (#[Value.int .u32 (N j), Value.int .u32 (I j)] : Array Value)[i]?
theorem SeAt.kept {B : Nat} {w' : World} {w : World} {oa : Option Addr} {n : Nat} {N I : Nat -> Int} (h : SeAt w oa n N I) (hb : Below B w w') (hB : ∀ ad, oa = some ad -> ad.block < B) : SeAt w' oa n N I := by
 rcases h with h | ⟨ad, ho, hl, hc⟩
 ·exact .inl h
 ·have hlt := hB ad ho
  refine .inr ⟨ad, ho, Nat.lt_of_lt_of_le hl hb.size, fun j hj i hi => ?_⟩;rw [hb.cell (by rw [zqe6, zqe6]; exact hlt)];exact hc j hj i hi
theorem SeAt.blk {w : World} {oa : Option Addr} {n : Nat} {N I : Nat -> Int} (h : SeAt w oa n N I) (hn : 0 < n) : ∃ ad, oa = some ad /\ ad.block < w.heap.size := by
 rcases h with h | ⟨ad, ho, hl, _⟩
 ·omega
 ·exact ⟨ad, ho, hl⟩
theorem SeAt.later {w' : World} {w : World} {oa : Option Addr} {n : Nat} {N I : Nat -> Int} (h : SeAt w oa n N I) (hb : Below w.heap.size w w') : SeAt w' oa n N I := by
 have h0 := h
 rcases h with h | ⟨ad, ho, hl, hc⟩
 ·exact .inl h
 ·exact h0.kept hb fun ad' e => by cases ho.symm.trans e; exact hl
theorem SeAt.aside {w : World} {oa : Option Addr} {n : Nat} {N I : Nat -> Int} (h : SeAt w oa n N I) (g : Nat) (hne : ∀ ad, oa = some ad -> ad.block ≠ g) (cs : Array Value) : SeAt (w.setRow g cs) oa n N I := by
 rcases h with h | ⟨ad, ho, hl, hc⟩
 ·exact .inl h
 ·refine .inr ⟨ad, ho, by rw [zqs]; exact hl, fun j hj i hi => ?_⟩
  rw [zqjp _ _ _ _ (by rw [zqe6, zqe6]; exact hne ad ho)];exact hc j hj i hi
theorem SeAt.nil (w : World) (oa : Option Addr) (N I : Nat -> Int) : SeAt w oa 0 N I := .inl rfl
theorem SeAt.congr {w : World} {oa : Option Addr} {n : Nat} {N I : Nat -> Int} {M J : Nat -> Int} (h : SeAt w oa n N I) (hN : ∀ j, j < n -> N j = M j) (hI : ∀ j, j < n -> I j = J j) : SeAt w oa n M J := by
 rcases h with h0 | ⟨ad, ho, hl, hc⟩
 ·exact .inl h0
 ·exact .inr ⟨ad, ho, hl, fun j hj i hi => by rw [hc j hj i hi, hN j hj, hI j hj]⟩
theorem zqqg {w : World} {base n : Nat} {v : Value} {N I : Nat -> Int} {t : TypeId} (h : w.ownsRow base t 2 v n (seL N I n)) : ∃ oa c, v = .slice oa n c /\ n <= c /\ SeAt w oa n N I /\ (∀ ad, oa = some ad -> base <= ad.block /\ ad.block < w.heap.size) := by
 rcases h.2 with ⟨rfl, h0⟩ | ⟨g, cap, cur, rfl, hb, hg, hnc, hcm, hcs, htake⟩
 ·subst h0
  exact ⟨none, 0, rfl, Nat.le_refl _, .inl rfl, fun ad e => by cases e⟩
 ·refine ⟨_, _, rfl, hnc, .inr ⟨_, rfl, zqa hg, fun j hj i hi => ?_⟩, fun ad e => by cases e; exact ⟨hb, zqa hg⟩⟩
  have e1 : ((⟨g, 0, none⟩ : Addr).add (j * 2)).add i = ⟨g, j * 2 + i, none⟩ := by
   rw [Go.Deep.add_add];unfold Addr.add
   split <;> simp_all
  rw [e1, cell_of_row w g (j * 2 + i) _ _ _ hg, <- zqzf N I j i hi n hj, <- htake, List.getElem?_take, if_pos (by omega), Array.getElem?_toList]
theorem SeAt.load_se {w : World} {ad : Addr} {n : Nat} {N I : Nat -> Int} (h : SeAt w (some ad) n N I) {j : Nat} (hj : j < n) : (zqq 63 (.pointer (some (ad.add (j * 2))))).run Tryz.prog w = .ok (.value (.agg #[Value.int .u32 (N j), Value.int .u32 (I j)])) w := by
 rcases h with h | ⟨ad', ho, hl, hc⟩
 ·omega
 ·cases ho
  exact zqcw Tryz.underlying63 rfl zqb w _ _ rfl (hc j hj)
@[go_sem ↓ high] theorem load_se (ρ : Operand -> Value) (d : Option Tmp) (x : Operand) (t : TypeId) (pos : String) (af : Array Edge) (g : Option (Nat × Bool)) :
  execOp ρ ⟨d, .load 63 x, t, pos, af, g⟩ = zqq 63 (ρ x) := zqax _ ρ d x t pos af g
@[go_sem high] theorem zrj2 (ρ : Operand -> Value) (d : Option Tmp) (x : Operand) (t : TypeId) (pos : String) (af : Array Edge) (g : Option (Nat × Bool)) :
  execOp ρ ⟨d, .load 63 x, t, pos, af, g⟩ = zqq 63 (ρ x) := zqax _ ρ d x t pos af g
@[go_sem] theorem zrd7 (g : Nat) (w : World) : (zqq 63 (.pointer (some ⟨g, 0, none⟩))).run Tryz.prog w = (zqau Tryz.prog 63 g 2 w (zqd w g)).andThen fun v w' => .ok (.value v) w' := by
 rw [zq6, zqa3 Tryz.underlying63 rfl zqb g w]
@[go_sem] theorem zrec (g : Nat) (w : World) (cs : Array Value) (t' : TypeId) (fr : Nat × Nat) (h : cs.size = 2) : zqau Tryz.prog 63 g 2 w (some (.cells cs t' fr)) = .ok (.agg cs) w := zqam cs t' fr h
theorem zqy7 (a b : Int) (W : World) : (Instr.buildSlice 42 1 #[(0, .agg #[.int .u32 a, .int .u32 b])]).run Tryz.prog W = .ok (.slice (some ⟨W.heap.size, 0, none⟩) 1 1) (W.alloc (.cells #[.int .u32 a, .int .u32 b] 63)) := by kernel_rfl
def seB1 (v : Value) : Sem Next := do pure (.value (<- Instr.buildSlice 42 1 #[(0, v)]))
@[go_sem ↓ high] theorem zrcr (ρ : Operand -> Value) (d : Option Tmp) (x : Operand) (t : TypeId) (pos : String) (af : Array Edge) (g : Option (Nat × Bool)) :
  execOp ρ ⟨d, .buildSlice 42 1 #[(0, x)], t, pos, af, g⟩ = seB1 (ρ x) := by
 unfold execOp seB1
 simp
@[go_sem high] theorem zrkm (ρ : Operand -> Value) (d : Option Tmp) (x : Operand) (t : TypeId) (pos : String) (af : Array Edge) (g : Option (Nat × Bool)) :
  execOp ρ ⟨d, .buildSlice 42 1 #[(0, x)], t, pos, af, g⟩ = seB1 (ρ x) := zrcr ρ d x t pos af g
@[go_sem] theorem zrjj (a b : Int) (W : World) : (seB1 (.agg #[.int .u32 a, .int .u32 b])).run Tryz.prog W = .ok (.value (.slice (some ⟨W.heap.size, 0, none⟩) 1 1)) (W.alloc (.cells #[.int .u32 a, .int .u32 b] 63)) := by
 unfold seB1
 simp only [Sem.run_bind, zqy7, Result.andThen_ok, Sem.run_pure]
@[go_sem ↓ high] theorem zre8 (ty : TypeId) (cs : Array Bool) (args : Array Value) : builtin .append #[42, 42] ty cs args = zqu #[42, 42] ty args := by unfold zqu; rfl
theorem zqwi (W : World) (base : Nat) (v : Value) (n : Nat) (N I : Nat -> Int) (g2 : Nat) (t2 : TypeId) (fr : Nat × Nat) (own : W.ownsRow base 63 2 v n (seL N I n)) (hn : n <= 1048576)
  (hg2 : zqd W g2 = some (.cells #[Value.int .u32 (N n), Value.int .u32 (I n)] t2 fr)) (hbW : base <= W.heap.size) :
  ∃ g cap w', (zqu #[42, 42] 42 #[v, .slice (some ⟨g2, 0, none⟩) 1 1]).run Tryz.prog W = .ok (.value (.slice (some ⟨g, 0, none⟩) (n + 1) cap)) w' /\ w'.ownsRow base 63 2 (.slice (some ⟨g, 0, none⟩) (n + 1) cap) (n + 1) (seL N I (n + 1)) /\ W.grownBy w' v.ownBlock := by
 obtain ⟨g, cap, w', hr, ho, hg, _, _⟩ := run_append_lies (P := Tryz.prog) W 42 42 base 63 ((Tryz.prog.info? 63).get zqb) (((Tryz.prog.info? 63).get zqb).zero.get zqb) 2 8 Tryz.underlying42 zqb zqb zqb zqb zqb (by decide) v n (seL N I n) own ⟨g2, 0, none⟩ 1 1 [Value.int .u32 (N n), Value.int .u32 (I n)] rfl
  (fun j u hu => by
   have hadd : (⟨g2, 0, none⟩ : Addr).add j = ⟨g2, j, none⟩ := by unfold Addr.add; split <;> simp_all
   rw [hadd, cell_of_row W g2 j _ _ _ hg2, <- hu, <- Array.getElem?_toList])
  (fun u hu => by
   simp only [List.mem_cons, List.not_mem_nil, or_false] at hu
   rcases hu with rfl | rfl <;> rfl) (by decide) (by unfold maxLen; omega) (by omega) hbW W.heap.size rfl
 exact ⟨g, cap, w', by unfold zqu; simp only [Sem.run_bind, hr, Result.andThen_ok, Sem.run_pure], ho, hg⟩
theorem SeAt.load_rse {w : World} {ad : Addr} {n : Nat} {N I : Nat -> Int} (h : SeAt w (some ad) n N I) {j : Nat} (hj : j < n) : (zqq 119 (.pointer (some (ad.add (j * 2))))).run Tryz.prog w = .ok (.value (.agg #[Value.int .u32 (N j), Value.int .u32 (I j)])) w := by
 rcases h with h | ⟨ad', ho, hl, hc⟩
 ·omega
 ·cases ho
  exact zqcw Tryz.underlying119 rfl zqb w _ _ rfl (hc j hj)
@[go_sem ↓ high] theorem load_rse (ρ : Operand -> Value) (d : Option Tmp) (x : Operand) (t : TypeId) (pos : String) (af : Array Edge) (g : Option (Nat × Bool)) :
  execOp ρ ⟨d, .load 119 x, t, pos, af, g⟩ = zqq 119 (ρ x) := zqax _ ρ d x t pos af g
@[go_sem high] theorem zrgo (ρ : Operand -> Value) (d : Option Tmp) (x : Operand) (t : TypeId) (pos : String) (af : Array Edge) (g : Option (Nat × Bool)) :
  execOp ρ ⟨d, .load 119 x, t, pos, af, g⟩ = zqq 119 (ρ x) := zqax _ ρ d x t pos af g
@[go_sem] theorem zra4 (g : Nat) (w : World) : (zqq 119 (.pointer (some ⟨g, 0, none⟩))).run Tryz.prog w = (zqau Tryz.prog 119 g 2 w (zqd w g)).andThen fun v w' => .ok (.value v) w' := by
 rw [zq6, zqa3 Tryz.underlying119 rfl zqb g w]
@[go_sem] theorem zrah (g : Nat) (w : World) (cs : Array Value) (t' : TypeId) (fr : Nat × Nat) (h : cs.size = 2) : zqau Tryz.prog 119 g 2 w (some (.cells cs t' fr)) = .ok (.agg cs) w := zqam cs t' fr h
theorem zqwa (a b : Int) (W : World) : (Instr.buildSlice 50 1 #[(0, .agg #[.int .u32 a, .int .u32 b])]).run Tryz.prog W = .ok (.slice (some ⟨W.heap.size, 0, none⟩) 1 1) (W.alloc (.cells #[.int .u32 a, .int .u32 b] 119)) := by kernel_rfl
def zqw2 (v : Value) : Sem Next := do pure (.value (<- Instr.buildSlice 50 1 #[(0, v)]))
@[go_sem ↓ high] theorem zq52 (ρ : Operand -> Value) (d : Option Tmp) (x : Operand) (t : TypeId) (pos : String) (af : Array Edge) (g : Option (Nat × Bool)) :
  execOp ρ ⟨d, .buildSlice 50 1 #[(0, x)], t, pos, af, g⟩ = zqw2 (ρ x) := by
 unfold execOp zqw2
 simp
@[go_sem high] theorem zri9 (ρ : Operand -> Value) (d : Option Tmp) (x : Operand) (t : TypeId) (pos : String) (af : Array Edge) (g : Option (Nat × Bool)) :
  execOp ρ ⟨d, .buildSlice 50 1 #[(0, x)], t, pos, af, g⟩ = zqw2 (ρ x) := zq52 ρ d x t pos af g
@[go_sem] theorem zris (a b : Int) (W : World) : (zqw2 (.agg #[.int .u32 a, .int .u32 b])).run Tryz.prog W = .ok (.value (.slice (some ⟨W.heap.size, 0, none⟩) 1 1)) (W.alloc (.cells #[.int .u32 a, .int .u32 b] 119)) := by
 unfold zqw2
 simp only [Sem.run_bind, zqwa, Result.andThen_ok, Sem.run_pure]
@[go_sem ↓ high] theorem zrdj (ty : TypeId) (cs : Array Bool) (args : Array Value) : builtin .append #[50, 50] ty cs args = zqu #[50, 50] ty args := by unfold zqu; rfl
theorem zqts (W : World) (base : Nat) (v : Value) (n : Nat) (N I : Nat -> Int) (g2 : Nat) (t2 : TypeId) (fr : Nat × Nat) (own : W.ownsRow base 119 2 v n (seL N I n)) (hn : n <= 1048576)
  (hg2 : zqd W g2 = some (.cells #[Value.int .u32 (N n), Value.int .u32 (I n)] t2 fr)) (hbW : base <= W.heap.size) :
  ∃ g cap w', (zqu #[50, 50] 50 #[v, .slice (some ⟨g2, 0, none⟩) 1 1]).run Tryz.prog W = .ok (.value (.slice (some ⟨g, 0, none⟩) (n + 1) cap)) w' /\ w'.ownsRow base 119 2 (.slice (some ⟨g, 0, none⟩) (n + 1) cap) (n + 1) (seL N I (n + 1)) /\ W.grownBy w' v.ownBlock := by
 obtain ⟨g, cap, w', hr, ho, hg, _, _⟩ := run_append_lies (P := Tryz.prog) W 50 50 base 119 ((Tryz.prog.info? 119).get zqb) (((Tryz.prog.info? 119).get zqb).zero.get zqb) 2 8 Tryz.underlying50 zqb zqb zqb zqb zqb (by decide) v n (seL N I n) own ⟨g2, 0, none⟩ 1 1 [Value.int .u32 (N n), Value.int .u32 (I n)] rfl
  (fun j u hu => by
   have hadd : (⟨g2, 0, none⟩ : Addr).add j = ⟨g2, j, none⟩ := by unfold Addr.add; split <;> simp_all
   rw [hadd, cell_of_row W g2 j _ _ _ hg2, <- hu, <- Array.getElem?_toList])
  (fun u hu => by
   simp only [List.mem_cons, List.not_mem_nil, or_false] at hu
   rcases hu with rfl | rfl <;> rfl) (by decide) (by unfold maxLen; omega) (by omega) hbW W.heap.size rfl
 exact ⟨g, cap, w', by unfold zqu; simp only [Sem.run_bind, hr, Result.andThen_ok, Sem.run_pure], ho, hg⟩
attribute [irreducible] seB1 zqw2
end Go.Proofs.YtnjghcnhcbobhaaGreatDoor
namespace Go.Proofs.YtnjghcnhcbobhaaGreatDoor
open Go.RowKit Go.Lib
def stC (a : Value) (f : Nat -> Int) (b : Value) (t : Nat -> Int) : Array Value := (#[a] : Array Value) ++ ints .u8 32 f ++ (#[b] : Array Value) ++ ints .u8 32 t
@[go_sem] theorem stC_size (a : Value) (f : Nat -> Int) (b : Value) (t : Nat -> Int) : (stC a f b t).size = 66 := by kernel_rfl
@[go_sem] theorem stC_one (oa : Option Addr) (na ca : Nat) (ob : Option Addr) (nb cb : Nat) (f : Nat -> Int) (t : Nat -> Int) : zqal (stC (.slice oa na ca) f (.slice ob nb cb) t) = true := by kernel_rfl
theorem zq56 (oa : Option Addr) (na ca : Nat) (ob : Option Addr) (nb cb : Nat) (f : Nat -> Int) (t : Nat -> Int) : (stC (.slice oa na ca) f (.slice ob nb cb) t).all (·.oneCell') = true := by kernel_rfl
@[go_sem] theorem stC_0 (a : Value) (f : Nat -> Int) (b : Value) (t : Nat -> Int) : (stC a f b t)[0]? = some (a) := by kernel_rfl
@[go_sem] theorem stC_0' (a : Value) (f : Nat -> Int) (b : Value) (t : Nat -> Int) (h : 0 < (stC a f b t).size) : (stC a f b t)[0] = a := Option.some.inj ((Array.getElem?_eq_getElem h).symm.trans (stC_0 a f b t))
@[go_sem] theorem stC_set0 (a : Value) (f : Nat -> Int) (b : Value) (t : Nat -> Int) (a9 : Value) : (stC a f b t).setIfInBounds 0 (a9) = stC a9 f b t := by kernel_rfl
theorem stC_ext1 (a : Value) (f : Nat -> Int) (b : Value) (t : Nat -> Int) : (stC a f b t).extract 1 (1 + 32) = ints .u8 32 f := by kernel_rfl
theorem stC_put1 (a : Value) (f : Nat -> Int) (b : Value) (t : Nat -> Int) (f9 : Nat -> Int) : zqbw (stC a f b t) 1 (ints .u8 32 f9).toList = stC a f9 b t := by kernel_rfl
@[go_sem] theorem stC_33 (a : Value) (f : Nat -> Int) (b : Value) (t : Nat -> Int) : (stC a f b t)[33]? = some (b) := by kernel_rfl
@[go_sem] theorem stC_33' (a : Value) (f : Nat -> Int) (b : Value) (t : Nat -> Int) (h : 33 < (stC a f b t).size) : (stC a f b t)[33] = b := Option.some.inj ((Array.getElem?_eq_getElem h).symm.trans (stC_33 a f b t))
@[go_sem] theorem stC_set33 (a : Value) (f : Nat -> Int) (b : Value) (t : Nat -> Int) (b9 : Value) : (stC a f b t).setIfInBounds 33 (b9) = stC a f b9 t := by kernel_rfl
theorem stC_ext34 (a : Value) (f : Nat -> Int) (b : Value) (t : Nat -> Int) : (stC a f b t).extract 34 (34 + 32) = ints .u8 32 t := by kernel_rfl
theorem stC_put34 (a : Value) (f : Nat -> Int) (b : Value) (t : Nat -> Int) (t9 : Nat -> Int) : zqbw (stC a f b t) 34 (ints .u8 32 t9).toList = stC a f b t9 := by kernel_rfl
@[go_sem ↓ high] theorem load_setup (ρ : Operand -> Value) (d : Option Tmp) (x : Operand) (t : TypeId) (pos : String) (af : Array Edge) (g : Option (Nat × Bool)) :
  execOp ρ ⟨d, .load 47 x, t, pos, af, g⟩ = zqq 47 (ρ x) := zqax _ ρ d x t pos af g
@[go_sem high] theorem load_setup' (ρ : Operand -> Value) (d : Option Tmp) (x : Operand) (t : TypeId) (pos : String) (af : Array Edge) (g : Option (Nat × Bool)) :
  execOp ρ ⟨d, .load 47 x, t, pos, af, g⟩ = zqq 47 (ρ x) := zqax _ ρ d x t pos af g
@[go_sem] theorem load_setup_at (g : Nat) (w : World) : (zqq 47 (.pointer (some ⟨g, 0, none⟩))).run Tryz.prog w = (zqau Tryz.prog 47 g 66 w (zqd w g)).andThen fun v w' => .ok (.value v) w' := by
 rw [zq6, zqa3 Tryz.underlying47 rfl zqb g w]
@[go_sem] theorem load_setup_of (g : Nat) (w : World) (cs : Array Value) (t' : TypeId) (fr : Nat × Nat) (h : cs.size = 66) : zqau Tryz.prog 47 g 66 w (some (.cells cs t' fr)) = .ok (.agg cs) w := zqam cs t' fr h
@[go_sem ↓ high] theorem store_setup (ρ : Operand -> Value) (d : Option Tmp) (x y : Operand) (t : TypeId) (pos : String) (af : Array Edge) (g : Option (Nat × Bool)) :
  execOp ρ ⟨d, .store 47 x y, t, pos, af, g⟩ = zqt 47 (ρ x) (ρ y) := zqat _ ρ d x y t pos af g
@[go_sem high] theorem store_setup' (ρ : Operand -> Value) (d : Option Tmp) (x y : Operand) (t : TypeId) (pos : String) (af : Array Edge) (g : Option (Nat × Bool)) :
  execOp ρ ⟨d, .store 47 x y, t, pos, af, g⟩ = zqt 47 (ρ x) (ρ y) := zqat _ ρ d x y t pos af g
@[go_sem] theorem store_setup_at (g : Nat) (cs : Array Value) (w : World) : (zqt 47 (.pointer (some ⟨g, 0, none⟩)) (.agg cs)).run Tryz.prog w = (zqan Tryz.prog 47 g 66 (.agg cs) w (zqd w g)).andThen fun _ w' => .ok .skip w' := by
 rw [zq8, zqa6 zqb g cs w]
@[go_sem] theorem store_setup_of (g : Nat) (w : World) (old cs : Array Value) (t' : TypeId) (h1 : old.size = 66) (h2 : cs.size = 66) (h3 : zqal cs = true) :
  zqan Tryz.prog 47 g 66 (.agg cs) w (some (.cells old t' (0, 0))) = .ok () (w.setRow g cs) := zqaq old cs t' h1 h2 h3
@[go_sem high] theorem zero_setup' (w : World) : (zeroValue 47).run Tryz.prog w = .ok (.agg (stC (.slice none 0 0) zqe (.slice none 0 0) zqe)) w := by kernel_rfl
@[go_sem ↓ high] theorem zero_setup (w : World) : (zeroValue 47).run Tryz.prog w = .ok (.agg (stC (.slice none 0 0) zqe (.slice none 0 0) zqe)) w := by kernel_rfl
@[go_sem] theorem none_setup (w : World) : (zqb4 47).run Tryz.prog w = .ok (.value (.agg (stC (.slice none 0 0) zqe (.slice none 0 0) zqe))) w := by kernel_rfl
@[go_sem ↓ high] theorem load_rset (ρ : Operand -> Value) (d : Option Tmp) (x : Operand) (t : TypeId) (pos : String) (af : Array Edge) (g : Option (Nat × Bool)) :
  execOp ρ ⟨d, .load 53 x, t, pos, af, g⟩ = zqq 53 (ρ x) := zqax _ ρ d x t pos af g
@[go_sem high] theorem load_rset' (ρ : Operand -> Value) (d : Option Tmp) (x : Operand) (t : TypeId) (pos : String) (af : Array Edge) (g : Option (Nat × Bool)) :
  execOp ρ ⟨d, .load 53 x, t, pos, af, g⟩ = zqq 53 (ρ x) := zqax _ ρ d x t pos af g
@[go_sem] theorem load_rset_at (g : Nat) (w : World) : (zqq 53 (.pointer (some ⟨g, 0, none⟩))).run Tryz.prog w = (zqau Tryz.prog 53 g 66 w (zqd w g)).andThen fun v w' => .ok (.value v) w' := by
 rw [zq6, zqa3 Tryz.underlying53 rfl zqb g w]
@[go_sem] theorem load_rset_of (g : Nat) (w : World) (cs : Array Value) (t' : TypeId) (fr : Nat × Nat) (h : cs.size = 66) : zqau Tryz.prog 53 g 66 w (some (.cells cs t' fr)) = .ok (.agg cs) w := zqam cs t' fr h
@[go_sem ↓ high] theorem store_rset (ρ : Operand -> Value) (d : Option Tmp) (x y : Operand) (t : TypeId) (pos : String) (af : Array Edge) (g : Option (Nat × Bool)) :
  execOp ρ ⟨d, .store 53 x y, t, pos, af, g⟩ = zqt 53 (ρ x) (ρ y) := zqat _ ρ d x y t pos af g
@[go_sem high] theorem store_rset' (ρ : Operand -> Value) (d : Option Tmp) (x y : Operand) (t : TypeId) (pos : String) (af : Array Edge) (g : Option (Nat × Bool)) :
  execOp ρ ⟨d, .store 53 x y, t, pos, af, g⟩ = zqt 53 (ρ x) (ρ y) := zqat _ ρ d x y t pos af g
@[go_sem] theorem store_rset_at (g : Nat) (cs : Array Value) (w : World) : (zqt 53 (.pointer (some ⟨g, 0, none⟩)) (.agg cs)).run Tryz.prog w = (zqan Tryz.prog 53 g 66 (.agg cs) w (zqd w g)).andThen fun _ w' => .ok .skip w' := by
 rw [zq8, zqa6 zqb g cs w]
@[go_sem] theorem store_rset_of (g : Nat) (w : World) (old cs : Array Value) (t' : TypeId) (h1 : old.size = 66) (h2 : cs.size = 66) (h3 : zqal cs = true) :
  zqan Tryz.prog 53 g 66 (.agg cs) w (some (.cells old t' (0, 0))) = .ok () (w.setRow g cs) := zqaq old cs t' h1 h2 h3
@[go_sem high] theorem zero_rset' (w : World) : (zeroValue 53).run Tryz.prog w = .ok (.agg (stC (.slice none 0 0) zqe (.slice none 0 0) zqe)) w := by kernel_rfl
@[go_sem ↓ high] theorem zero_rset (w : World) : (zeroValue 53).run Tryz.prog w = .ok (.agg (stC (.slice none 0 0) zqe (.slice none 0 0) zqe)) w := by kernel_rfl
@[go_sem] theorem none_rset (w : World) : (zqb4 53).run Tryz.prog w = .ok (.value (.agg (stC (.slice none 0 0) zqe (.slice none 0 0) zqe))) w := by kernel_rfl
@[go_sem] theorem load_key_34 (g : Nat) (w : World) : (zqq 44 (.pointer (some ⟨g, 34, none⟩))).run Tryz.prog w = (zqa8 Tryz.prog 44 g 34 32 w (zqd w g)).andThen fun v w' => .ok (.value v) w' := by
 rw [zq6, zqde Tryz.underlying44 rfl zqb g 34 w]
@[go_sem] theorem load_stC_stk1 (g : Nat) (w : World) (a : Value) (f : Nat -> Int) (b : Value) (t : Nat -> Int) (t' : TypeId) (fr : Nat × Nat) : zqa8 Tryz.prog 44 g 1 32 w (some (.cells (stC a f b t) t' fr)) = .ok (.agg (ints .u8 32 f)) w := by
 unfold zqa8
 simp only [stC_size]
 rw [if_pos (by decide), stC_ext1]
@[go_sem] theorem load_stC_stk34 (g : Nat) (w : World) (a : Value) (f : Nat -> Int) (b : Value) (t : Nat -> Int) (t' : TypeId) (fr : Nat × Nat) : zqa8 Tryz.prog 44 g 34 32 w (some (.cells (stC a f b t) t' fr)) = .ok (.agg (ints .u8 32 t)) w := by
 unfold zqa8
 simp only [stC_size]
 rw [if_pos (by decide), stC_ext34]
@[go_sem] theorem load_k32_1 (g : Nat) (w : World) : (zqq 43 (.pointer (some ⟨g, 1, none⟩))).run Tryz.prog w = (zqa8 Tryz.prog 43 g 1 32 w (zqd w g)).andThen fun v w' => .ok (.value v) w' := by
 rw [zq6, zqde Tryz.underlying43 rfl zqb g 1 w]
@[go_sem] theorem store_k32_1 (g : Nat) (cs : Array Value) (w : World) : (zqt 43 (.pointer (some ⟨g, 1, none⟩)) (.agg cs)).run Tryz.prog w = (zqbs Tryz.prog 43 g 1 32 (.agg cs) w (zqd w g)).andThen fun _ w' => .ok .skip w' := by
 rw [zq8, zqdq zqb g 1 cs w]
@[go_sem] theorem load_k32_34 (g : Nat) (w : World) : (zqq 43 (.pointer (some ⟨g, 34, none⟩))).run Tryz.prog w = (zqa8 Tryz.prog 43 g 34 32 w (zqd w g)).andThen fun v w' => .ok (.value v) w' := by
 rw [zq6, zqde Tryz.underlying43 rfl zqb g 34 w]
@[go_sem] theorem store_k32_34 (g : Nat) (cs : Array Value) (w : World) : (zqt 43 (.pointer (some ⟨g, 34, none⟩)) (.agg cs)).run Tryz.prog w = (zqbs Tryz.prog 43 g 34 32 (.agg cs) w (zqd w g)).andThen fun _ w' => .ok .skip w' := by
 rw [zq8, zqdq zqb g 34 cs w]
@[go_sem] theorem load_stC_stq1 (g : Nat) (w : World) (a : Value) (f : Nat -> Int) (b : Value) (t : Nat -> Int) (t' : TypeId) (fr : Nat × Nat) : zqa8 Tryz.prog 43 g 1 32 w (some (.cells (stC a f b t) t' fr)) = .ok (.agg (ints .u8 32 f)) w := by
 unfold zqa8
 simp only [stC_size]
 rw [if_pos (by decide), stC_ext1]
@[go_sem] theorem store_stC_stq1 (g : Nat) (w : World) (a : Value) (f : Nat -> Int) (b : Value) (t : Nat -> Int) (f9 : Nat -> Int) (t' : TypeId) : zqbs Tryz.prog 43 g 1 32 (.agg (ints .u8 32 f9)) w (some (.cells (stC a f b t) t' (0, 0))) = .ok () (w.setRow g (stC a f9 b t)) := by
 unfold zqbs
 simp only [zqi, stC_size]
 rw [if_pos ⟨by decide, by trivial, zqdd _ _ _⟩, stC_put1]
@[go_sem] theorem load_stC_stq34 (g : Nat) (w : World) (a : Value) (f : Nat -> Int) (b : Value) (t : Nat -> Int) (t' : TypeId) (fr : Nat × Nat) : zqa8 Tryz.prog 43 g 34 32 w (some (.cells (stC a f b t) t' fr)) = .ok (.agg (ints .u8 32 t)) w := by
 unfold zqa8
 simp only [stC_size]
 rw [if_pos (by decide), stC_ext34]
@[go_sem] theorem store_stC_stq34 (g : Nat) (w : World) (a : Value) (f : Nat -> Int) (b : Value) (t : Nat -> Int) (t9 : Nat -> Int) (t' : TypeId) : zqbs Tryz.prog 43 g 34 32 (.agg (ints .u8 32 t9)) w (some (.cells (stC a f b t) t' (0, 0))) = .ok () (w.setRow g (stC a f b t9)) := by
 unfold zqbs
 simp only [zqi, stC_size]
 rw [if_pos ⟨by decide, by trivial, zqdd _ _ _⟩, stC_put34]
def stB4 (x0 : Value) (x1 : Value) (x2 : Value) (x3 : Value) : Sem Next := do pure (.value (<- Instr.build 47 #[(0, x0), (1, x1), (2, x2), (3, x3)]))
@[go_sem ↓ high] theorem op_stB4 (ρ : Operand -> Value) (dd : Option Tmp) (x0 x1 x2 x3 : Operand) (t : TypeId) (pos : String) (af : Array Edge) (gg : Option (Nat × Bool)) :
  execOp ρ ⟨dd, .build 47 #[(0, x0), (1, x1), (2, x2), (3, x3)], t, pos, af, gg⟩ = stB4 (ρ x0) (ρ x1) (ρ x2) (ρ x3) := by simp [execOp, stB4]
@[go_sem high] theorem op_stB4' (ρ : Operand -> Value) (dd : Option Tmp) (x0 x1 x2 x3 : Operand) (t : TypeId) (pos : String) (af : Array Edge) (gg : Option (Nat × Bool)) :
  execOp ρ ⟨dd, .build 47 #[(0, x0), (1, x1), (2, x2), (3, x3)], t, pos, af, gg⟩ = stB4 (ρ x0) (ρ x1) (ρ x2) (ρ x3) := by simp [execOp, stB4]
theorem runb_stB4 (oa : Option Addr) (na ca : Nat) (f : Nat -> Int) (ob : Option Addr) (nb cb : Nat) (t : Nat -> Int) (w : World) : (Instr.build 47 #[(0, .slice oa na ca), (1, .agg (ints .u8 32 f)), (2, .slice ob nb cb), (3, .agg (ints .u8 32 t))]).run Tryz.prog w = .ok (.agg (stC (.slice oa na ca) f (.slice ob nb cb) t)) w := by kernel_rfl
@[go_sem] theorem run_stB4 (oa : Option Addr) (na ca : Nat) (f : Nat -> Int) (ob : Option Addr) (nb cb : Nat) (t : Nat -> Int) (w : World) : (stB4 (.slice oa na ca) (.agg (ints .u8 32 f)) (.slice ob nb cb) (.agg (ints .u8 32 t))).run Tryz.prog w = .ok (.value (.agg (stC (.slice oa na ca) f (.slice ob nb cb) t))) w := by
 unfold stB4;rw [Sem.run_bind, runb_stB4]
 rfl
def stB2 (x0 : Value) (x2 : Value) : Sem Next := do pure (.value (<- Instr.build 47 #[(0, x0), (2, x2)]))
@[go_sem ↓ high] theorem op_stB2 (ρ : Operand -> Value) (dd : Option Tmp) (x0 x2 : Operand) (t : TypeId) (pos : String) (af : Array Edge) (gg : Option (Nat × Bool)) :
  execOp ρ ⟨dd, .build 47 #[(0, x0), (2, x2)], t, pos, af, gg⟩ = stB2 (ρ x0) (ρ x2) := by simp [execOp, stB2]
@[go_sem high] theorem op_stB2' (ρ : Operand -> Value) (dd : Option Tmp) (x0 x2 : Operand) (t : TypeId) (pos : String) (af : Array Edge) (gg : Option (Nat × Bool)) :
  execOp ρ ⟨dd, .build 47 #[(0, x0), (2, x2)], t, pos, af, gg⟩ = stB2 (ρ x0) (ρ x2) := by simp [execOp, stB2]
theorem runb_stB2 (oa : Option Addr) (na ca : Nat) (ob : Option Addr) (nb cb : Nat) (w : World) : (Instr.build 47 #[(0, .slice oa na ca), (2, .slice ob nb cb)]).run Tryz.prog w = .ok (.agg (stC (.slice oa na ca) zqe (.slice ob nb cb) zqe)) w := by kernel_rfl
@[go_sem] theorem run_stB2 (oa : Option Addr) (na ca : Nat) (ob : Option Addr) (nb cb : Nat) (w : World) : (stB2 (.slice oa na ca) (.slice ob nb cb)).run Tryz.prog w = .ok (.value (.agg (stC (.slice oa na ca) zqe (.slice ob nb cb) zqe))) w := by
 unfold stB2;rw [Sem.run_bind, runb_stB2]
 rfl
def rstB3 (x1 : Value) (x2 : Value) (x3 : Value) : Sem Next := do pure (.value (<- Instr.build 53 #[(1, x1), (2, x2), (3, x3)]))
@[go_sem ↓ high] theorem op_rstB3 (ρ : Operand -> Value) (dd : Option Tmp) (x1 x2 x3 : Operand) (t : TypeId) (pos : String) (af : Array Edge) (gg : Option (Nat × Bool)) :
  execOp ρ ⟨dd, .build 53 #[(1, x1), (2, x2), (3, x3)], t, pos, af, gg⟩ = rstB3 (ρ x1) (ρ x2) (ρ x3) := by simp [execOp, rstB3]
@[go_sem high] theorem op_rstB3' (ρ : Operand -> Value) (dd : Option Tmp) (x1 x2 x3 : Operand) (t : TypeId) (pos : String) (af : Array Edge) (gg : Option (Nat × Bool)) :
  execOp ρ ⟨dd, .build 53 #[(1, x1), (2, x2), (3, x3)], t, pos, af, gg⟩ = rstB3 (ρ x1) (ρ x2) (ρ x3) := by simp [execOp, rstB3]
theorem runb_rstB3 (f : Nat -> Int) (ob : Option Addr) (nb cb : Nat) (t : Nat -> Int) (w : World) : (Instr.build 53 #[(1, .agg (ints .u8 32 f)), (2, .slice ob nb cb), (3, .agg (ints .u8 32 t))]).run Tryz.prog w = .ok (.agg (stC (.slice none 0 0) f (.slice ob nb cb) t)) w := by kernel_rfl
@[go_sem] theorem run_rstB3 (f : Nat -> Int) (ob : Option Addr) (nb cb : Nat) (t : Nat -> Int) (w : World) : (rstB3 (.agg (ints .u8 32 f)) (.slice ob nb cb) (.agg (ints .u8 32 t))).run Tryz.prog w = .ok (.value (.agg (stC (.slice none 0 0) f (.slice ob nb cb) t))) w := by
 unfold rstB3;rw [Sem.run_bind, runb_rstB3]
 rfl
attribute [irreducible] stC stB4 stB2 rstB3
end Go.Proofs.YtnjghcnhcbobhaaGreatDoor
namespace Go.Proofs.YtnjghcnhcbobhaaGreatDoor
open Go.RowKit Go.Maps
def nmD (N : Nat -> Int) : Nat -> DataW Unit
 | 0 => .map []
 | k + 1 => (nmD N k).put (klit (N k)) (.lit (.bool true))
theorem zq9d (f : Nat -> Int) : ∀ k, Tidy (nmD f k) /\ Maps.size (nmD f k) <= k /\ (∀ v, Maps.has (nmD f k) (klit v) = true ↔ ∃ j, j < k /\ f j = v) /\ (¬ Twice f k -> Maps.size (nmD f k) = k) /\ (Twice f k -> Maps.size (nmD f k) < k)
 | 0 => ⟨tidy_empty, Nat.le_refl _, fun v => Iff.intro (fun h => by cases h) (fun ⟨j, hj, _⟩ => by omega), fun _ => rfl, fun ⟨a, ha, _⟩ => by omega⟩
 | k + 1 => by
  obtain ⟨h1, h2, h3, h4, h5⟩ := zq9d f k;have hs := size_put (k := klit (f k)) h1 (.lit (.bool true));have he : nmD f (k + 1) = (nmD f k).put (klit (f k)) (.lit (.bool true)) := rfl;rw [<- he] at hs;refine ⟨h1.put (zqkz _) _, ?_, fun v => ?_, fun h => ?_, fun ⟨a, ha, b, hb, e⟩ => ?_⟩
  ·rw [hs]; split <;> omega
  ·by_cases e : v = f k
   ·subst e
    rw [he, has_put_same h1.isMap (zqkz _)];exact ⟨fun _ => ⟨k, by omega, rfl⟩, fun _ => rfl⟩
   ·rw [he, has_put_other (fun h => e (zqu8 h)), h3]
    exact ⟨fun ⟨j, hj, h⟩ => ⟨j, by omega, h⟩, fun ⟨j, hj, h⟩ => ⟨j, by
     rcases (by omega : j < k \/ j = k) with hj' | rfl
     ·exact hj'
     ·exact absurd h.symm e, h⟩⟩
  ·have hn : ¬ (Maps.has (nmD f k) (klit (f k)) = true) := fun hh => by
    obtain ⟨j, hj, e⟩ := (h3 _).1 hh;exact h ⟨k, by omega, j, hj, e.symm⟩
   rw [hs, if_neg hn, h4 fun ⟨a, ha, b, hb, e⟩ => h ⟨a, by omega, b, hb, e⟩]
  ·rw [hs]
   rcases (by omega : a < k \/ a = k) with ha' | rfl
   ·have := h5 ⟨a, ha', b, hb, e⟩
    split <;> omega
   ·rw [if_pos ((h3 _).2 ⟨b, hb, e.symm⟩)]
    omega
theorem zqp7 (n : Int) (w : World) (h : 2 <= n /\ n <= 1024) :
  Calls Tryz.prog 61 #[.int .i64 n] w (Rt w (.bool true)) := by
 obtain ⟨h1, h2⟩ := h
 go_enter Tryz.func61, Tryz.ntmps61
 go_wp2;go_ret;exact ⟨by first | rfl | simp [h1, h2], Grew.refl _⟩
theorem zqv0 (n : Int) (w : World) (h : ¬ (2 <= n /\ n <= 1024)) :
  Calls Tryz.prog 61 #[.int .i64 n] w (Rt w (.bool false)) := by
 go_enter Tryz.func61, Tryz.ntmps61
 by_cases h1 : 2 <= n
 ·have h2 : ¬ (n <= 1024) := fun h3 => h ⟨h1, h3⟩
  go_wp2;go_ret;exact ⟨by first | rfl | simp [h1, h2], Grew.refl _⟩
 ·go_wp2
  go_ret;exact ⟨by first | rfl | simp [h1], Grew.refl _⟩
theorem zqi0 (n : Int) (w : World) (h0 : 0 <= n) (h1 : n <= 1000000) :
  Calls Tryz.prog 63 #[.int .i64 n] w (Rt w (.int .i64 (2 * n - 2))) := by
 go_enter Tryz.func63, Tryz.ntmps63
 go_wp2;go_ret;exact ⟨rfl, Grew.refl _⟩
def zrk4 (N : Nat -> Int) (n : Nat) (w : World) (e : Ending) (w' : World) : Prop := ∃ b : Bool, e = .returned (.bool b) /\ (b = true ↔ Twice N n) /\ Below w.heap.size w w'
theorem zqwx (oa ob : Option Addr) (n c m d : Nat) (f t : Nat -> Int) (N I : Nat -> Int) (w : World) (hn : n <= 2000) (hP : SeAt w oa n N I) (hN : ∀ j, j < n -> 0 <= N j /\ N j < 4294967296) :
  Calls Tryz.prog 62 #[.agg (stC (.slice oa n c) f (.slice ob m d) t)] w (zrk4 N n w) := by
 have HP : Hid (SeAt w oa n N I) := hP;have HN := hid1 hN;clear hP hN;have hmm := @run_makeMap Tryz.prog;have LK : Keyed Tryz.prog 22 := int_keyed Tryz.underlying22
 go_enter Tryz.func62, Tryz.ntmps62
 go_wp2_with fail;have fs : zqd ((w.alloc (.cells (stC (.slice oa n c) f (.slice ob m d) t) 47)).alloc (.map #[] 0)) w.heap.size = some (.cells (stC (.slice oa n c) f (.slice ob m d) t) 47) := zqj _ (zqh _ _ _ rfl);have hmp : Hid (((w.alloc (.cells (stC (.slice oa n c) f (.slice ob m d) t) 47)).alloc (.map #[] 0)).ownsMap Tryz.prog 22 (plainElem (H := Unit) Tryz.prog 4) (w.heap.size + 1) 0 (.map [])) := by
  have := World.ownsMap_made (w.alloc (.cells (stC (.slice oa n c) f (.slice ob m d) t) 47)) Tryz.prog 22 (plainElem (H := Unit) Tryz.prog 4);rwa [World.size_alloc] at this
 have hG : Below w.heap.size w ((w.alloc (.cells (stC (.slice oa n c) f (.slice ob m d) t) 47)).alloc (.map #[] 0)) := Grew.alloc (Grew.alloc (Grew.refl _) _) _;have hsz : w.heap.size + 2 <= ((w.alloc (.cells (stC (.slice oa n c) f (.slice ob m d) t) 47)).alloc (.map #[] 0)).heap.size := by simp
 clear hmm;generalize (w.alloc (.cells (stC (.slice oa n c) f (.slice ob m d) t) 47)).alloc (.map #[] 0) = w2 at *;have ls := zqa fs
 go_loopw [10] (fun i wr => ∃ k : Nat, k <= n /\ i = .int .i64 k /\ Below w.heap.size w wr /\ zqd wr w.heap.size = some (.cells (stC (.slice oa n c) f (.slice ob m d) t) 47) /\ w.heap.size + 2 <= wr.heap.size /\ Hid (wr.ownsMap Tryz.prog 22 (plainElem (H := Unit) Tryz.prog 4) (w.heap.size + 1) k (nmD N k))) (fun i _ => n - (intOf i).toNat)
 case atStart => exact ⟨0, by omega, rfl, hG, fs, hsz, hmp⟩
 case round =>
  clear hG fs hsz hmp ls;obtain ⟨k, hk, rfl, hG, fs, hsz, HM⟩ := hrel;have ls := zqa fs
  by_cases hlt : k < n
  ·have hi1 : (k : Int) < (n : Int) := by omega
   have hi0 : (0 : Int) <= (k : Int) := by omega
   obtain ⟨ad, rfl, -⟩ := HP.out.blk (by omega);have hl := (HP.out.later hG).load_se hlt;obtain ⟨hx0, hx1⟩ := HN.out k hlt;have wfk : (Lit.int .u32 (N k)).wf = true := by simp [Lit.wf, IntKind.min, IntKind.max, IntKind.signed, IntKind.bits]; omega
   have hkey : keyOf Tryz.prog 22 (.int .u32 (N k)) = some (klit (N k)) := keyOf_int_mk Tryz.underlying22 wfk;have hnext : Hid (nmD N (k + 1) = (nmD N k).put (klit (N k)) (.lit (.bool true))) := rfl;have fx : zqd (wr.alloc (.cells #[.int .u32 (N k), .int .u32 (I k)] 63)) wr.heap.size = some (.cells #[.int .u32 (N k), .int .u32 (I k)] 63) := zqh _ _ _ rfl;have fs1 := zqj (.cells #[.int .u32 (N k), .int .u32 (I k)] 63) fs;have hG1 := Grew.alloc hG (.cells #[.int .u32 (N k), .int .u32 (I k)] 63);have hsz1 : w.heap.size + 2 <= (wr.alloc (.cells #[.int .u32 (N k), .int .u32 (I k)] 63)).heap.size := by simp; omega
   have HM1 := hid1 (HM.out.alloc (.cells #[.int .u32 (N k), .int .u32 (I k)] 63));go_wp2_with (first | (at_mapUpdate; refine wpList_mapUpdate_own _ rfl _ _ _ 182 rfl 22 4 LK Tryz.underlying182 (plainElem (H := Unit) Tryz.prog 4) (w.heap.size + 1) k _ rfl HM1.out (by unfold maxLen; omega) _ _ _ rfl rfl hkey _ [] (plainElem_bool Tryz.underlying4 true) ?_) | go_in);intro w6 hown hgrow;rw [<- hnext.out] at hown;have hG6 := hG1.grown hgrow (by omega) (fun j e => by cases e; omega);have fs6 : zqd w6 w.heap.size = _ := (hgrow.block _ (by omega) (fun e => by have := Option.some.inj e; omega)).trans fs1;have hsz6 := Nat.le_trans hsz1 hgrow.size;have HM6 := hid1 hown;clear hown hgrow HM HM1 fs1 hG1 fx hl;go_wp2
   go_roundw
   case rel => first | exact ⟨k + 1, by omega, by go_num, hG6, fs6, hsz6, HM6⟩ | ((repeat' apply Exists.intro) <;> first | exact ⟨⟨k + 1, by omega, by go_num, hG6, fs6, hsz6, HM6⟩, rfl⟩ | exact undef)
   case measure => (simp [intOf]; omega)
  ·obtain rfl : k = n := by omega
   have hi1 : ¬ ((k : Int) < (k : Int)) := by omega
   have hlen := HM.out.len Tryz.underlying182 3;obtain ⟨-, -, -, s2, s1⟩ := zq9d N k;obtain ⟨s, hs⟩ : ∃ s, Maps.size (nmD N k) = s := ⟨_, rfl⟩
   rw [hs] at hlen s1 s2
   by_cases hd : Twice N k
   ·have hlt2 : (s : Int) < (k : Int) := by have := s1 hd; omega
    go_wp2;go_ret;exact ⟨true, rfl, ⟨fun _ => hd, fun _ => rfl⟩, hG⟩
   ·have hlt2 : ¬ ((s : Int) < (k : Int)) := by have := s2 hd; omega
    go_wp2;go_ret;exact ⟨false, rfl, ⟨fun h => (by cases h), fun h => absurd h hd⟩, hG⟩
theorem zqj0 (oa ob : Option Addr) (n c m d : Nat) (f t : Nat -> Int) (N I : Nat -> Int) (w : World) (hn : n <= 100000) (hm : m <= 100000) (hP : SeAt w oa n N I) (hN : ∀ j, j < n -> 0 <= N j /\ N j < 4294967296) :
  Calls Tryz.prog 20 #[.agg (stC (.slice oa n c) f (.slice ob m d) t)] w fun e w' => ∃ u, e = .returned (u) /\ ErV w' u (chkE n N m) /\ Below w.heap.size w w' := by
 have HP : Hid (SeAt w oa n N I) := hP;clear hP
 go_enter Tryz.func20, Tryz.ntmps20
 have fb : zqd (w.alloc (.cells (stC (.slice oa n c) f (.slice ob m d) t) 47)) w.heap.size = some (.cells (stC (.slice oa n c) f (.slice ob m d) t) 47) := zqh _ _ _ rfl;have hG : Below w.heap.size w (w.alloc (.cells (stC (.slice oa n c) f (.slice ob m d) t) 47)) := Grew.alloc (Grew.refl _) _;have lb := zqa fb
 by_cases h : 2 <= n /\ n <= 1024
 case neg =>
  have hE := hid1 (show chkE n N m = 4 by unfold chkE; rw [if_pos (by omega)]);have hc := fun W => zqv0 (n : Int) W (by omega);go_wp2_with fail;refine (hc _).mono ?_
  rintro e w2 ⟨rfl, hb⟩;replace hG := Grew.trans hG hb;go_wp2_with fail;refine (wrap_any _ _ _ _).mono ?_
  rintro e w3 ⟨rfl, rfl⟩;go_wp2;go_ret;exact ⟨_, rfl, by rw [hE.out]; exact zqg8 _ 4 (by decide), Grew.alloc hG _⟩
 have hc := fun W => zqp7 (n : Int) W (by omega);go_wp2_with fail;refine (hc _).mono ?_
 rintro e w2 ⟨rfl, hb⟩;replace fb := zqc hb fb;replace hG := Grew.trans hG hb;clear hb lb hc;have lb := zqa fb;go_wp2_with fail;refine (zqwx oa ob n c m d f t N I _ (by omega) (HP.out.later hG) hN).mono ?_
 rintro e w3 ⟨b, rfl, hbt, hb⟩;replace fb := zqc hb fb;replace hG := Grew.trans hG hb;clear hb lb hN;have lb := zqa fb
 cases b with
 | true =>
  have hE := hid1 (show chkE n N m = 15 by unfold chkE; rw [if_neg (by omega), if_pos (zqf0 (hbt.1 rfl))]);clear hbt;go_wp2_with fail;refine (wrap_any _ _ _ _).mono ?_
  rintro e w3 ⟨rfl, rfl⟩;go_wp2;go_ret;exact ⟨_, rfl, by rw [hE.out]; exact zqg8 _ 15 (by decide), Grew.alloc hG _⟩
 | false =>
  have hnd : ¬ Twice N n := fun h => by cases hbt.2 h
  have cP := fun W => zqi0 (n : Int) W (by omega) (by omega);clear hbt
  by_cases hm2 : (m : Int) = 2 * (n : Int) - 2
  ·have hE := hid1 (show chkE n N m = 0 by unfold chkE; rw [if_neg (by omega), zqgq hnd, if_neg (by decide), if_neg (by omega)])
   have hE2 : ((m : Int) == 2 * (n : Int) - 2) = true := by simp [hm2]
   clear hnd;go_wp2_with fail
   ((first | (with_reducible refine zq9 zqb zqb ?_) | refine zq2 zqb zqb ?_); (repeat (first | go_big_quiet_skip | (go_big_quiet_want; go_big_quiet_op; first | go_big_quiet_on | (apply Exists.intro; refine ⟨fun _ => ?_, ?_⟩; (focus (exact Calls.of_more (cP _))); go_big_quiet_on)))); refine wpQuiet_nil ?_; rintro _ ⟨mq, rfl⟩)
   replace hG := Grew.more hG mq;generalize more w3 mq = w4 at *;go_wp2;go_ret;exact ⟨_, rfl, by rw [hE.out]; exact .inl ⟨rfl, rfl⟩, hG⟩
  ·have hE := hid1 (show chkE n N m = 6 by unfold chkE; rw [if_neg (by omega), zqgq hnd, if_neg (by decide), if_pos (by omega)])
   have hE2 : ((m : Int) == 2 * (n : Int) - 2) = false := by simp [hm2]
   clear hnd;go_wp2_with fail
   ((first | (with_reducible refine zq9 zqb zqb ?_) | refine zq2 zqb zqb ?_); (repeat (first | go_big_quiet_skip | (go_big_quiet_want; go_big_quiet_op; first | go_big_quiet_on | (apply Exists.intro; refine ⟨fun _ => ?_, ?_⟩; (focus (exact Calls.of_more (cP _))); go_big_quiet_on)))); refine wpQuiet_nil ?_; rintro _ ⟨mq, rfl⟩)
   replace hG := Grew.more hG mq;generalize more w3 mq = w4 at *;go_wp2_with fail;refine (wrap_any _ _ _ _).mono ?_
   rintro e w3 ⟨rfl, rfl⟩;go_wp2;go_ret;exact ⟨_, rfl, by rw [hE.out]; exact zqg8 _ 6 (by decide), Grew.alloc hG _⟩
end Go.Proofs.YtnjghcnhcbobhaaGreatDoor
namespace Go.Proofs.YtnjghcnhcbobhaaGreatDoor
open Go.RowKit Go.Extern
theorem zrft {n m : Nat} {N : Nat -> Int} (h2 : 2 <= n) (hn : n <= 1024) (hm : m = 2 * n - 2) (hd : ¬ Twice N n) : chkE n N m = 0 := by
 subst hm;unfold chkE;rw [if_neg (by omega), zqgq hd, if_neg (by decide), if_neg (fun h => h rfl)]
theorem zrf7 (n : Nat) (N I f : Nat -> Int) (m : Nat) (P : Nat -> Nat -> Int) (t : Nat -> Int) : sB n N I f m P t = catS (twoT (catS (sF n N I f m P t) (3 + 2 * n + 2)) t) 2 := by
 rw [zq08];generalize catS (sF n N I f m P t) (3 + 2 * n + 2) = B
 show B ++ zqcv (fun _ => t) 1 = ByteArray.empty ++ B ++ zqcv (fun _ => t) 1
 rw [ByteArray.empty_append]
theorem zq1c (oa ob : Option Addr) (n c m d : Nat) (f t : Nat -> Int) (N I : Nat -> Int) (P : Nat -> Nat -> Int) (w : World) (hP : SeAt w oa n N I) (hN : ∀ j, j < n -> 0 <= N j /\ N j < 4294967296) (hI : ∀ j, j < n -> 0 <= I j /\ I j < 4294967296) (hK : K32At w ob m P) (gP : ∀ j, j < m -> Bytes 32 (P j)) (gf : Bytes 32 f) (h2 : 2 <= n) (hn : n <= 400) (hm : m = 2 * n - 2) (hd : ¬ Twice N n) :
  Calls Tryz.prog 18 #[.agg (stC (.slice oa n c) f (.slice ob m d) t)] w (Rt w (.tuple #[.string (catS (sF n N I f m P t) (3 + 2 * n + 2)), .nilIface])) := by
 have HP : Hid (SeAt w oa n N I) := hP;have HK : Hid (K32At w ob m P) := hK;have HNI := hid1 (And.intro hN hI);have GP := hid1 gP;have hE := zrft h2 (Nat.le_trans hn (by decide)) hm hd;have hn2 : n <= 100000 := by omega
 have hm2 : m <= 1000 := by omega
 clear hP hK gP hI hm
 go_enter Tryz.func18, Tryz.ntmps18
 go_wp2_with fail;have fb : zqd (w.alloc (.cells (stC (.slice oa n c) f (.slice ob m d) t) 47)) w.heap.size = some (.cells (stC (.slice oa n c) f (.slice ob m d) t) 47) := zqh _ _ _ rfl;have hG : Below w.heap.size w (w.alloc (.cells (stC (.slice oa n c) f (.slice ob m d) t) 47)) := Grew.alloc (Grew.refl _) _;generalize w.alloc (.cells (stC (.slice oa n c) f (.slice ob m d) t) 47) = w1 at *;refine (zqj0 oa ob n c m d f t N I _ hn2 (by omega) (HP.out.later hG) hN).mono ?_
 rintro e w2 ⟨u, rfl, hu, hb⟩;rw [hE] at hu;replace fb := zqc hb fb;replace hG := Grew.trans hG hb;clear hb hN hE
 rcases hu with ⟨-, rfl⟩ | ⟨h9, -⟩
 case inr => exact absurd rfl h9
 have lb := zqa fb;have hw2 : IntKind.u64.wrap (n : Int) = (n : Int) := by rw [IntKind.wrap_u64]; omega
 go_wp2_with fail;refine zqe2 (fun k => k == 1 || k == 2 || k == 7) (fun k => match k with | 1 => fun u => WSh u | 2 => fun u => WSh u | 7 => fun u => WSh u | _ => fun _ => True) (fun k => match k with | 1 => fun u w => PcW [numB 1 1] u w | 2 => fun u w => PcW [numB 1 2, numB 1 1] u w | 7 => fun u w => PcW [numB 2 (n : Int), numB 1 2, numB 1 1] u w | _ => fun _ _ => True) (fun k => match k with | 1 => .agg #[.pointer (some ⟨0, 0, none⟩)] | 2 => .agg #[.pointer (some ⟨0, 0, none⟩)] | 7 => .agg #[.pointer (some ⟨0, 0, none⟩)] | _ => undef) (fun i hi => ?_) zqb zqb ?_
 ·simp only [Bool.or_eq_true, beq_iff_eq] at hi
  rcases hi with (rfl | rfl) | rfl
  ·exact ⟨0, rfl⟩
  ·exact ⟨0, rfl⟩
  ·exact ⟨0, rfl⟩
 (first | refine zqy rfl ?_ | (refine zqo rfl ?_; apply Exists.intro))
 refine zqo rfl ⟨undef, ?_⟩;refine zqo rfl ⟨undef, ?_⟩
 iterate 4 (first | refine zqy rfl ?_ | (refine zqo rfl ?_; apply Exists.intro))
 refine zqo rfl ⟨undef, ?_⟩
 iterate 2 (first | refine zqy rfl ?_ | (refine zqo rfl ?_; apply Exists.intro))
 refine zqb8 ?_
 intro γ gv hsv hinj hbase;obtain ⟨g1, e1⟩ := hsv 1 rfl;obtain ⟨g2, e2⟩ := hsv 2 rfl;obtain ⟨g3, e3⟩ := hsv 7 rfl
 (repeat (first | (refine zq0 rfl ?_; ((first | go_big_quiet_skip | (go_big_quiet_want; go_big_quiet_op; go_big_quiet_on)); refine wpQuiet_nil ?_)) | ((first | refine zqm rfl (fun _ => rfl) ?_ | (apply zqae; (focus rfl); (focus rfl); (focus rfl); (focus (intro W hC hF; (skip); go_big_quiet_want; go_big_quiet_op; (first | go_big_quiet_on | (apply Exists.intro; refine ⟨fun _ => ?_, ?_⟩; (focus ((fail))); go_big_quiet_on)); exact wpQuiet_nil rfl)); (focus (first | exact fun _ => ⟨rfl, rfl⟩ | exact fun h => absurd h (by decide))))); ((first | go_big_quiet_skip | (go_big_quiet_want; go_big_quiet_op; go_big_quiet_on)); refine wpQuiet_nil ?_)) | refine zqn rfl (fun _ => rfl) ?_))
 refine rel_callv #[.agg #[.pointer none], .int .i64 1, .int .u64 1] (enters_of Tryz.func42 zqb rfl) rfl e1 rfl rfl rfl rfl (by exact zqbm) (by first | kernel_rfl | simp [go_sem]) ?_ ?_
 ·intro W hC hF
  obtain ⟨mm, rfl⟩ := hC;refine (zqd6 1 1 none _ (by omega) (by omega)).mono ?_
  rintro e w9 ⟨g, rfl, fg, hb9⟩;exact ⟨_, rfl, ⟨g, rfl⟩, (fun v ev => by cases ev; exact ⟨g, _, rfl, fg, rfl⟩), hb9⟩
 ((first | go_big_quiet_skip | (go_big_quiet_want; go_big_quiet_op; go_big_quiet_on)); refine wpQuiet_nil ?_)
 (repeat (first | (refine zq0 rfl ?_; ((first | go_big_quiet_skip | (go_big_quiet_want; go_big_quiet_op; go_big_quiet_on)); refine wpQuiet_nil ?_)) | ((first | refine zqm rfl (fun _ => rfl) ?_ | (apply zqae; (focus rfl); (focus rfl); (focus rfl); (focus (intro W hC hF; (skip); go_big_quiet_want; go_big_quiet_op; (first | go_big_quiet_on | (apply Exists.intro; refine ⟨fun _ => ?_, ?_⟩; (focus ((fail))); go_big_quiet_on)); exact wpQuiet_nil rfl)); (focus (first | exact fun _ => ⟨rfl, rfl⟩ | exact fun h => absurd h (by decide))))); ((first | go_big_quiet_skip | (go_big_quiet_want; go_big_quiet_op; go_big_quiet_on)); refine wpQuiet_nil ?_)) | refine zqn rfl (fun _ => rfl) ?_))
 refine rel_callv #[.agg #[.pointer (some ⟨g1, 0, none⟩)], .int .i64 1, .int .u64 2] (enters_of Tryz.func42 zqb rfl) rfl e2 rfl rfl rfl rfl (by exact zqbm) (by first | kernel_rfl | simp [go_sem]) ?_ ?_
 ·intro W hC hF
  obtain ⟨mm, rfl⟩ := hC;have hE0 : PcW [numB 1 1] (.agg #[.pointer (some ⟨g1, 0, none⟩)]) (more w2 mm) := known hF (List.mem_cons_self ..) (by decide +kernel);refine (zqd6 1 2 (some ⟨g1, 0, none⟩) _ (by omega) (by omega)).mono ?_
  rintro e w9 ⟨g, rfl, fg, hb9⟩;exact ⟨_, rfl, ⟨g, rfl⟩, (fun v ev => by cases ev; exact ⟨g, _, rfl, fg, (hE0 _ rfl).later hb9⟩), hb9⟩
 ((first | go_big_quiet_skip | (go_big_quiet_want; go_big_quiet_op; go_big_quiet_on)); refine wpQuiet_nil ?_)
 (repeat (first | (refine zq0 rfl ?_; ((first | go_big_quiet_skip | (go_big_quiet_want; go_big_quiet_op; go_big_quiet_on)); refine wpQuiet_nil ?_)) | ((first | refine zqm rfl (fun _ => rfl) ?_ | (apply zqae; (focus rfl); (focus rfl); (focus rfl); (focus (intro W hC hF; (skip); go_big_quiet_want; go_big_quiet_op; (first | go_big_quiet_on | (apply Exists.intro; refine ⟨fun _ => ?_, ?_⟩; (focus ((fail))); go_big_quiet_on)); exact wpQuiet_nil rfl)); (focus (first | exact fun _ => ⟨rfl, rfl⟩ | exact fun h => absurd h (by decide))))); ((first | go_big_quiet_skip | (go_big_quiet_want; go_big_quiet_op; go_big_quiet_on)); refine wpQuiet_nil ?_)) | refine zqn rfl (fun _ => rfl) ?_))
 refine rel_callv #[.agg #[.pointer (some ⟨g2, 0, none⟩)], .int .i64 2, .int .u64 (n : Int)] (enters_of Tryz.func42 zqb rfl) rfl e3 rfl rfl rfl rfl (by exact zqbm) (by first | kernel_rfl | simp [go_sem]) ?_ ?_
 ·intro W hC hF
  obtain ⟨mm, rfl⟩ := hC;have hE0 : PcW [numB 1 2, numB 1 1] (.agg #[.pointer (some ⟨g2, 0, none⟩)]) (more w2 mm) := known hF (List.mem_cons_self ..) (by decide +kernel);refine (zqd6 2 (n : Int) (some ⟨g2, 0, none⟩) _ (by omega) (by omega)).mono ?_
  rintro e w9 ⟨g, rfl, fg, hb9⟩;exact ⟨_, rfl, ⟨g, rfl⟩, (fun v ev => by cases ev; exact ⟨g, _, rfl, fg, (hE0 _ rfl).later hb9⟩), hb9⟩
 ((first | go_big_quiet_skip | (go_big_quiet_want; go_big_quiet_op; go_big_quiet_on)); refine wpQuiet_nil ?_)
 (repeat (first | (refine zq0 rfl ?_; ((first | go_big_quiet_skip | (go_big_quiet_want; go_big_quiet_op; go_big_quiet_on)); refine wpQuiet_nil ?_)) | ((first | refine zqm rfl (fun _ => rfl) ?_ | ((try simp only [Nat.zero_add, Nat.reduceAdd]); apply zqbz _ _ zq5; (focus rfl); (focus (intro W; (first | exact zqcl _ | exact zqb1 _ | exact zero_num _ | exact zqbx _ | exact zqbf _ | exact zqbi _ | exact zqkp _))); (focus (first | exact zqbg _ _ _ | exact zqbu _ _ | rfl)); (focus (exact zqbm))) | (apply zqae; (focus rfl); (focus rfl); (focus rfl); (focus (intro W hC hF; (skip); go_big_quiet_want; go_big_quiet_op; (first | go_big_quiet_on | (apply Exists.intro; refine ⟨fun _ => ?_, ?_⟩; (focus ((fail))); go_big_quiet_on)); exact wpQuiet_nil rfl)); (focus (first | exact fun _ => ⟨rfl, rfl⟩ | exact fun h => absurd h (by decide))))); ((first | go_big_quiet_skip | (go_big_quiet_want; go_big_quiet_op; go_big_quiet_on)); refine wpQuiet_nil ?_)) | refine zqn rfl (fun _ => rfl) ?_ | ((try simp only [Nat.zero_add, Nat.reduceAdd]); apply zqbt (zqbe (hbase _)); (focus rfl); (focus rfl); (focus rfl); (focus (first | exact zqai _ | exact zqao _ _ | exact zqag _ | rfl)); rotate_left 3; (focus (exact zqeg)); rotate_right 3; (focus kernel_rfl); (focus (first | exact zqi _ _ _ | rfl)); (focus (first | exact zqbb _ _ _ | exact zqb5 _ _ _ _ | kernel_rfl)); (focus (decide +kernel)); (focus (exact zqbm)))))
 (refine zqcg ?_; rintro _ ⟨mq, rfl⟩ hF; simp only [List.forall_mem_cons] at hF; obtain ⟨fv, -, f3, -⟩ := hF)
 have hP3 := f3 _ rfl;replace hG := Grew.more hG mq;replace fv : zqd (more w2 mq) (γ 8) = some (.cells #[.pointer (some ⟨g3, 0, none⟩)] 99) := fv;replace fb := zqp mq fb;have HPc : Hid (Pcs (more w2 mq) (revL (sF n N I f m P t) (3 + 2 * 0)) (.pointer (some ⟨g3, 0, none⟩))) := by rw [zq31]; exact hP3
 have hgw : w.heap.size < γ 8 := Nat.lt_of_lt_of_le lb (hbase 8);clear f3 hinj hbase hsv e1 e2 e3 lb hP3;generalize γ 8 = gw at *;generalize more w2 mq = w3 at *;clear γ;have lv := zqa fv;have lb := zqa fb;go_wp2_with fail
 go_loopw [24] (fun i wr => ∃ (k : Nat) (p : Option Addr), k <= n /\ i = .int .i64 k /\ zqd wr gw = some (.cells #[.pointer p] 99) /\ Hid (Pcs wr (revL (sF n N I f m P t) (3 + 2 * k)) (.pointer p)) /\ zqd wr w.heap.size = some (.cells (stC (.slice oa n c) f (.slice ob m d) t) 47) /\ Below w.heap.size w wr) (fun i _ => n - (intOf i).toNat)
 case atStart => exact ⟨0, _, by omega, rfl, fv, HPc, fb, hG⟩
 case round =>
  clear hG fv fb HPc lv lb;obtain ⟨k, p, hk, rfl, fv, HPc, fb, hG⟩ := hrel;have lv := zqa fv;have lb := zqa fb
  by_cases hlt : k < n
  ·have hi1 : (k : Int) < (n : Int) := by omega
   have hi0 : (0 : Int) <= (k : Int) := by omega
   obtain ⟨ad, rfl, -⟩ := HP.out.blk (by omega);have hl := (HP.out.later hG).load_se hlt;have hx := HNI.out.1 k hlt;have hy := HNI.out.2 k hlt;have HR := hid1 (zrfy n N I f m P t k hlt);generalize N k = x at *;generalize I k = y at *;have hw3 : IntKind.u64.wrap x = x := by rw [IntKind.wrap_u64]; omega
   have hw4 : IntKind.u64.wrap y = y := by rw [IntKind.wrap_u64]; omega
   have fp : zqd (wr.alloc (.cells #[.int .u32 x, .int .u32 y] 63)) wr.heap.size = some (.cells #[.int .u32 x, .int .u32 y] 63) := zqh _ _ _ rfl;have fv1 := zqj (.cells #[.int .u32 x, .int .u32 y] 63) fv;have fb1 := zqj (.cells #[.int .u32 x, .int .u32 y] 63) fb;have HP1 : Hid (Pcs (wr.alloc (.cells #[.int .u32 x, .int .u32 y] 63)) (revL (sF n N I f m P t) (3 + 2 * k)) (.pointer p)) := HPc.out.later (Grew.alloc (Grew.refl _) _);have hG1 := Grew.alloc hG (.cells #[.int .u32 x, .int .u32 y] 63);go_wp2_with fail;clear hl fv fb HPc hG lv lb;generalize wr.alloc (.cells #[.int .u32 x, .int .u32 y] 63) = w5 at *;generalize wr.heap.size = gp at *;have lv := zqa fv1;have lb := zqa fb1;have lp := zqa fp;generalize revL (sF n N I f m P t) (3 + 2 * k) = LL at *
   refine wp_relTv (fun k => k == 4 || k == 8) (fun k => match k with | 4 => fun u => WSh u | 8 => fun u => WSh u | _ => fun _ => True) (fun k => match k with | 4 => fun u w => PcW (numB 4 x :: LL) u w | 8 => fun u w => PcW (numB 4 y :: numB 4 x :: LL) u w | _ => fun _ _ => True) (fun k => match k with | 4 => .agg #[.pointer (some ⟨0, 0, none⟩)] | 8 => .agg #[.pointer (some ⟨0, 0, none⟩)] | _ => undef) (fun i hi => ?_) 9 zqb zqb zqb zqb zqb ?_
   ·simp only [Bool.or_eq_true, beq_iff_eq] at hi
    rcases hi with rfl | rfl
    ·exact ⟨0, rfl⟩
    ·exact ⟨0, rfl⟩
   simp only [List.take_succ_cons, List.take_zero]
   iterate 4 (first | refine zqy rfl ?_ | (refine zqo rfl ?_; apply Exists.intro))
   refine zqo rfl ⟨undef, ?_⟩
   iterate 3 (first | refine zqy rfl ?_ | (refine zqo rfl ?_; apply Exists.intro))
   refine zqo rfl ⟨undef, ?_⟩;refine zqb8 ?_
   intro γ gv hsv hinj hbase;obtain ⟨g1, e1⟩ := hsv 4 rfl;obtain ⟨g2, e2⟩ := hsv 8 rfl
   (repeat (first | (refine zq0 rfl ?_; ((first | go_big_quiet_skip | (go_big_quiet_want; go_big_quiet_op; go_big_quiet_on)); refine wpQuiet_nil ?_)) | ((first | refine zqm rfl (fun _ => rfl) ?_ | (apply zqae; (focus rfl); (focus rfl); (focus rfl); (focus (intro W hC hF; (skip); go_big_quiet_want; go_big_quiet_op; (first | go_big_quiet_on | (apply Exists.intro; refine ⟨fun _ => ?_, ?_⟩; (focus ((fail))); go_big_quiet_on)); exact wpQuiet_nil rfl)); (focus (first | exact fun _ => ⟨rfl, rfl⟩ | exact fun h => absurd h (by decide))))); ((first | go_big_quiet_skip | (go_big_quiet_want; go_big_quiet_op; go_big_quiet_on)); refine wpQuiet_nil ?_)) | refine zqn rfl (fun _ => rfl) ?_))
   refine rel_callv #[.agg #[.pointer p], .int .i64 4, .int .u64 x] (enters_of Tryz.func42 zqb rfl) rfl e1 rfl rfl rfl rfl (by exact zqbm) (by first | kernel_rfl | simp [go_sem]) ?_ ?_
   ·intro W hC hF
    obtain ⟨mm, rfl⟩ := hC;refine (zqd6 4 x p _ (by omega) (by omega)).mono ?_
    rintro e w9 ⟨g, rfl, fg, hb9⟩;exact ⟨_, rfl, ⟨g, rfl⟩, (fun v ev => by cases ev; exact ⟨g, _, rfl, fg, (HP1.out.later (zql _ _)).later hb9⟩), hb9⟩
   ((first | go_big_quiet_skip | (go_big_quiet_want; go_big_quiet_op; go_big_quiet_on)); refine wpQuiet_nil ?_)
   (repeat (first | (refine zq0 rfl ?_; ((first | go_big_quiet_skip | (go_big_quiet_want; go_big_quiet_op; go_big_quiet_on)); refine wpQuiet_nil ?_)) | ((first | refine zqm rfl (fun _ => rfl) ?_ | (apply zqae; (focus rfl); (focus rfl); (focus rfl); (focus (intro W hC hF; (skip); go_big_quiet_want; go_big_quiet_op; (first | go_big_quiet_on | (apply Exists.intro; refine ⟨fun _ => ?_, ?_⟩; (focus ((fail))); go_big_quiet_on)); exact wpQuiet_nil rfl)); (focus (first | exact fun _ => ⟨rfl, rfl⟩ | exact fun h => absurd h (by decide))))); ((first | go_big_quiet_skip | (go_big_quiet_want; go_big_quiet_op; go_big_quiet_on)); refine wpQuiet_nil ?_)) | refine zqn rfl (fun _ => rfl) ?_))
   refine rel_callv #[.agg #[.pointer (some ⟨g1, 0, none⟩)], .int .i64 4, .int .u64 y] (enters_of Tryz.func42 zqb rfl) rfl e2 rfl rfl rfl rfl (by exact zqbm) (by first | kernel_rfl | simp [go_sem]) ?_ ?_
   ·intro W hC hF
    obtain ⟨mm, rfl⟩ := hC;have hE0 : PcW (numB 4 x :: LL) (.agg #[.pointer (some ⟨g1, 0, none⟩)]) (more w5 mm) := known hF (List.mem_cons_self ..) (by decide +kernel);refine (zqd6 4 y (some ⟨g1, 0, none⟩) _ (by omega) (by omega)).mono ?_
    rintro e w9 ⟨g, rfl, fg, hb9⟩;exact ⟨_, rfl, ⟨g, rfl⟩, (fun v ev => by cases ev; exact ⟨g, _, rfl, fg, (hE0 _ rfl).later hb9⟩), hb9⟩
   ((first | go_big_quiet_skip | (go_big_quiet_want; go_big_quiet_op; go_big_quiet_on)); refine wpQuiet_nil ?_)
   (repeat (first | (refine zq0 rfl ?_; ((first | go_big_quiet_skip | (go_big_quiet_want; go_big_quiet_op; go_big_quiet_on)); refine wpQuiet_nil ?_)) | ((first | refine zqm rfl (fun _ => rfl) ?_ | (apply zqae; (focus rfl); (focus rfl); (focus rfl); (focus (intro W hC hF; (skip); go_big_quiet_want; go_big_quiet_op; (first | go_big_quiet_on | (apply Exists.intro; refine ⟨fun _ => ?_, ?_⟩; (focus ((fail))); go_big_quiet_on)); exact wpQuiet_nil rfl)); (focus (first | exact fun _ => ⟨rfl, rfl⟩ | exact fun h => absurd h (by decide))))); ((first | go_big_quiet_skip | (go_big_quiet_want; go_big_quiet_op; go_big_quiet_on)); refine wpQuiet_nil ?_)) | refine zqn rfl (fun _ => rfl) ?_))
   (refine zqk6 ?_; rintro _ ⟨mq, rfl⟩ hF; simp only [List.forall_mem_cons] at hF; obtain ⟨f8, -⟩ := hF)
   have hP8 := f8 _ rfl;replace hG := Grew.more hG1 mq;replace fv := zqp mq fv1;replace fb := zqp mq fb1;clear f8 hinj hbase hsv e1 e2 fp lp HP1 hG1 fv1 fb1 lv lb hx hy;generalize more w5 mq = w6 at *;clear γ gv;have lv := zqa fv
   (refine zqr (i := 9) (fuel := 0) zqb rfl ?_; intro K hK; go_simp; refine hK _ _ ?_; clear hK K)
   (refine wpAny_done zqb ?_ _)
   have HP9 : Hid (Pcs (w6.setRow gw #[.pointer (some ⟨g2, 0, none⟩)]) (revL (sF n N I f m P t) (3 + 2 * (k + 1))) (.pointer (some ⟨g2, 0, none⟩))) := by rw [HR.out]; exact hid1 (hP8.put fv (by decide) _)
   replace hG := Grew.setRow hG gw #[.pointer (some ⟨g2, 0, none⟩)] (by omega);have fb9 := zqk gw #[.pointer (some ⟨g2, 0, none⟩)] fb (by omega);have fv9 := zqv #[.pointer (some ⟨g2, 0, none⟩)] fv;clear hP8 fb fv lv;generalize w6.setRow gw #[.pointer (some ⟨g2, 0, none⟩)] = w7 at *;go_wp2
   go_roundw
   case rel => first | exact ⟨k + 1, _, by omega, by go_num, fv9, HP9, fb9, hG⟩ | ((repeat' apply Exists.intro) <;> first | exact ⟨⟨k + 1, _, by omega, by go_num, fv9, HP9, fb9, hG⟩, rfl⟩ | exact undef)
   case measure => (simp [intOf]; omega)
  ·obtain rfl : k = n := by omega
   have hi1 : ¬ ((k : Int) < (k : Int)) := by omega
   have HR := hid1 (zrbt k N I f m P t);have hsz := zqk3 k N I f m P t;have cT := fun (p : Option Addr) (W : World) (hc : Pcs W (revL (sF k N I f m P t) (3 + 2 * k + 2)) (.pointer p)) => zql8 (sF k N I f m P t) (3 + 2 * k + 2) (.pointer p) W hc (by omega) (by rw [hsz]; omega);rw [HR.out] at cT;have HK1 := hid1 (HK.out.later hG);generalize revL (sF k N I f m P t) (3 + 2 * k) = LL at *;generalize hTX : catS (sF k N I f m P t) (3 + 2 * k + 2) = TX at *;clear HR hsz;go_wp2_with fail
   refine zqe2 (fun k => k == 4 || k == 7) (fun k => match k with | 4 => fun u => WSh u | 7 => fun u => WSh u | _ => fun _ => True) (fun k => match k with | 4 => fun u w => PcW (zqcv (fun _ => f) 1 :: LL) u w | 7 => fun u w => PcW (zqcv P m :: zqcv (fun _ => f) 1 :: LL) u w | _ => fun _ _ => True) (fun k => match k with | 4 => .agg #[.pointer (some ⟨0, 0, none⟩)] | 7 => .agg #[.pointer (some ⟨0, 0, none⟩)] | _ => undef) (fun i hi => ?_) zqb zqb ?_
   ·simp only [Bool.or_eq_true, beq_iff_eq] at hi
    rcases hi with rfl | rfl
    ·exact ⟨0, rfl⟩
    ·exact ⟨0, rfl⟩
   iterate 4 (first | refine zqy rfl ?_ | (refine zqo rfl ?_; apply Exists.intro))
   refine zqo rfl ⟨undef, ?_⟩
   iterate 2 (first | refine zqy rfl ?_ | (refine zqo rfl ?_; apply Exists.intro))
   refine zqo rfl ⟨undef, ?_⟩
   iterate 3 (first | refine zqy rfl ?_ | (refine zqo rfl ?_; apply Exists.intro))
   refine zqb8 ?_
   intro γ gv hsv hinj hbase;obtain ⟨g1, e1⟩ := hsv 4 rfl;obtain ⟨g2, e2⟩ := hsv 7 rfl
   (repeat (first | (refine zq0 rfl ?_; ((first | go_big_quiet_skip | (go_big_quiet_want; go_big_quiet_op; go_big_quiet_on)); refine wpQuiet_nil ?_)) | ((first | refine zqm rfl (fun _ => rfl) ?_ | ((try simp only [Nat.zero_add, Nat.reduceAdd]); apply zqb7 zq5; (focus rfl); (focus (intro W; simp only [List.map_toArray, List.map_cons, List.map_nil]; first | (with_reducible exact zqh0 _ W) | exact zqh0 _ W)); (focus (exact zqbm))) | (apply zqae; (focus rfl); (focus rfl); (focus rfl); (focus (intro W hC hF; (skip); go_big_quiet_want; go_big_quiet_op; (first | go_big_quiet_on | (apply Exists.intro; refine ⟨fun _ => ?_, ?_⟩; (focus ((fail))); go_big_quiet_on)); exact wpQuiet_nil rfl)); (focus (first | exact fun _ => ⟨rfl, rfl⟩ | exact fun h => absurd h (by decide))))); ((first | go_big_quiet_skip | (go_big_quiet_want; go_big_quiet_op; go_big_quiet_on)); refine wpQuiet_nil ?_)) | refine zqn rfl (fun _ => rfl) ?_))
   refine rel_callv #[.agg #[.pointer p], .slice (some ⟨γ 3, 0, none⟩) 1 1] (enters_of Tryz.func43 zqb rfl) rfl e1 rfl rfl rfl rfl (by exact zqbm) (by first | kernel_rfl | simp [go_sem]) ?_ ?_
   ·intro W hC hF
    obtain ⟨mm, rfl⟩ := hC;have hE1 : Full (γ 3) (ints .u8 32 f) 44 (more wr mm) := known hF (List.mem_cons_self ..) (by decide +kernel);refine (zql5 (fun _ => f) (some ⟨γ 3, 0, none⟩) 1 1 p _ (zqze hE1) (fun i hi => gf) (by decide)).mono ?_
    rintro e w9 ⟨g, rfl, fg, hb9⟩;exact ⟨_, rfl, ⟨g, rfl⟩, (fun v ev => by cases ev; exact ⟨g, _, rfl, fg, (HPc.out.later (zql _ _)).later hb9⟩), hb9⟩
   ((first | go_big_quiet_skip | (go_big_quiet_want; go_big_quiet_op; go_big_quiet_on)); refine wpQuiet_nil ?_)
   (repeat (first | (refine zq0 rfl ?_; ((first | go_big_quiet_skip | (go_big_quiet_want; go_big_quiet_op; go_big_quiet_on)); refine wpQuiet_nil ?_)) | ((first | refine zqm rfl (fun _ => rfl) ?_ | (apply zqae; (focus rfl); (focus rfl); (focus rfl); (focus (intro W hC hF; (skip); go_big_quiet_want; go_big_quiet_op; (first | go_big_quiet_on | (apply Exists.intro; refine ⟨fun _ => ?_, ?_⟩; (focus ((fail))); go_big_quiet_on)); exact wpQuiet_nil rfl)); (focus (first | exact fun _ => ⟨rfl, rfl⟩ | exact fun h => absurd h (by decide))))); ((first | go_big_quiet_skip | (go_big_quiet_want; go_big_quiet_op; go_big_quiet_on)); refine wpQuiet_nil ?_)) | refine zqn rfl (fun _ => rfl) ?_))
   refine rel_callv #[.agg #[.pointer (some ⟨g1, 0, none⟩)], .slice ob m d] (enters_of Tryz.func43 zqb rfl) rfl e2 rfl rfl rfl rfl (by exact zqbm) (by first | kernel_rfl | simp [go_sem]) ?_ ?_
   ·intro W hC hF
    obtain ⟨mm, rfl⟩ := hC;have hE0 : PcW (zqcv (fun _ => f) 1 :: LL) (.agg #[.pointer (some ⟨g1, 0, none⟩)]) (more wr mm) := known hF (List.mem_cons_self ..) (by decide +kernel);refine (zql5 P ob m d (some ⟨g1, 0, none⟩) _ (HK1.out.later (zql _ _)) GP.out (by omega)).mono ?_
    rintro e w9 ⟨g, rfl, fg, hb9⟩;exact ⟨_, rfl, ⟨g, rfl⟩, (fun v ev => by cases ev; exact ⟨g, _, rfl, fg, (hE0 _ rfl).later hb9⟩), hb9⟩
   ((first | go_big_quiet_skip | (go_big_quiet_want; go_big_quiet_op; go_big_quiet_on)); refine wpQuiet_nil ?_)
   (repeat (first | (refine zq0 rfl ?_; ((first | go_big_quiet_skip | (go_big_quiet_want; go_big_quiet_op; go_big_quiet_on)); refine wpQuiet_nil ?_)) | ((first | refine zqm rfl (fun _ => rfl) ?_ | (apply zqae; (focus rfl); (focus rfl); (focus rfl); (focus (intro W hC hF; ((try (have hE0 : PcW (zqcv P m :: zqcv (fun _ => f) 1 :: LL) (.agg #[.pointer (some ⟨g2, 0, none⟩)]) W := known hF (List.mem_cons_self ..) (by decide +kernel)))); go_big_quiet_want; go_big_quiet_op; (first | go_big_quiet_on | (apply Exists.intro; refine ⟨fun _ => ?_, ?_⟩; (focus ((exact Calls.of_more (cT _ _ ((hE0 _ rfl).later (zql W _)))))); go_big_quiet_on)); exact wpQuiet_nil rfl)); (focus (first | exact fun _ => ⟨rfl, rfl⟩ | exact fun h => absurd h (by decide))))); ((first | go_big_quiet_skip | (go_big_quiet_want; go_big_quiet_op; go_big_quiet_on)); refine wpQuiet_nil ?_)) | refine zqn rfl (fun _ => rfl) ?_))
   (refine zqcg ?_; rintro _ ⟨mq, rfl⟩ hF; simp only [List.forall_mem_cons] at hF; obtain ⟨-, -⟩ := hF)
   replace hG := Grew.more hG mq;go_wp2;refine ⟨rfl, .tuple #[.string TX, .nilIface], ?_, by first | rfl | rw [hTX], hG⟩
   first | rfl | kernel_rfl | simp [go_sem, results]
theorem zqy4 (oa ob : Option Addr) (n c m d : Nat) (f t : Nat -> Int) (N I : Nat -> Int) (w : World) (hP : SeAt w oa n N I) (hN : ∀ j, j < n -> 0 <= N j /\ N j < 4294967296) (hn : n <= 100000) (hm : m <= 100000) (h : chkE n N m ≠ 0) :
  Calls Tryz.prog 18 #[.agg (stC (.slice oa n c) f (.slice ob m d) t)] w fun e w' => ∃ u, e = .returned (.tuple #[.string ⟨#[]⟩, u]) /\ ErV w' u (chkE n N m) /\ Below w.heap.size w w' := by
 go_enter Tryz.func18, Tryz.ntmps18
 go_wp2_with fail;have hG : Below w.heap.size w (w.alloc (.cells (stC (.slice oa n c) f (.slice ob m d) t) 47)) := Grew.alloc (Grew.refl _) _;refine (zqj0 oa ob n c m d f t N I _ hn hm (hP.later hG) hN).mono ?_
 rintro e w2 ⟨u, rfl, hu, hb⟩;replace hG := Grew.trans hG hb;have HU := hid1 hu
 rcases hu with ⟨h9, -⟩ | ⟨-, t', x, q, rfl, -⟩
 case inl => exact absurd h9 h
 go_wp2;refine ⟨rfl, .tuple #[.string ⟨#[]⟩, .iface t' x], ?_, ⟨_, rfl, HU.out, hG⟩⟩
 first | rfl | kernel_rfl | simp [go_sem, results]
theorem zqhj (oa ob : Option Addr) (n c m d : Nat) (f t : Nat -> Int) (N I : Nat -> Int) (P : Nat -> Nat -> Int) (w : World) (hP : SeAt w oa n N I) (hN : ∀ j, j < n -> 0 <= N j /\ N j < 4294967296) (hI : ∀ j, j < n -> 0 <= I j /\ I j < 4294967296) (hK : K32At w ob m P) (gP : ∀ j, j < m -> Bytes 32 (P j)) (gf : Bytes 32 f) (gt : Bytes 32 t) (h2 : 2 <= n) (hn : n <= 400) (hm : m = 2 * n - 2) (hd : ¬ Twice N n) :
  Calls Tryz.prog 16 #[.agg (stC (.slice oa n c) f (.slice ob m d) t)] w (Rt w (.tuple #[.string (sB n N I f m P t), .nilIface])) := by
 have HP : Hid (SeAt w oa n N I) := hP;have HK : Hid (K32At w ob m P) := hK;have HNI := hid1 (And.intro hN hI);have GP := hid1 gP;have hz := zqk3 n N I f m P t;have HM := hid1 hm;have hm2 : m <= 1000 := by omega
 rw [zrf7];clear hP hK hN hI gP hm
 go_enter Tryz.func16, Tryz.ntmps16
 go_wp2_with fail;have fb : zqd (w.alloc (.cells (stC (.slice oa n c) f (.slice ob m d) t) 47)) w.heap.size = some (.cells (stC (.slice oa n c) f (.slice ob m d) t) 47) := zqh _ _ _ rfl;have hG : Below w.heap.size w (w.alloc (.cells (stC (.slice oa n c) f (.slice ob m d) t) 47)) := Grew.alloc (Grew.refl _) _;generalize w.alloc (.cells (stC (.slice oa n c) f (.slice ob m d) t) 47) = w1 at *;have cB := fun (W : World) (hb : Below w1.heap.size w1 W) => zq1c oa ob n c m d f t N I P W ((HP.out.later hG).later hb) HNI.out.1 HNI.out.2 ((HK.out.later hG).later hb) GP.out gf h2 hn HM.out hd;generalize hBB : catS (sF n N I f m P t) (3 + 2 * n + 2) = B at *;refine (cB _ (Grew.refl _)).mono ?_
 rintro e w2 ⟨rfl, hb⟩;replace fb := zqc hb fb;replace hG := Grew.trans hG hb;clear hb cB;have lb := zqa fb;have cT := fun (p : Option Addr) (W : World) (hc : Pcs W [zqcv (fun _ => t) 1, B] (.pointer p)) => zql8 (twoT B t) 2 (.pointer p) W hc (by decide) (by show (ByteArray.empty ++ B ++ zqcv (fun _ => t) 1).size + 2 <= _; rw [ByteArray.size_append, ByteArray.size_append, zqcb, zquv]; omega);generalize hTX : catS (twoT B t) 2 = TX at *;go_wp2_with fail
 refine zqe2 (fun k => k == 2 || k == 6) (fun k => match k with | 2 => fun u => WSh u | 6 => fun u => WSh u | _ => fun _ => True) (fun k => match k with | 2 => fun u w => PcW [B] u w | 6 => fun u w => PcW [zqcv (fun _ => t) 1, B] u w | _ => fun _ _ => True) (fun k => match k with | 2 => .agg #[.pointer (some ⟨0, 0, none⟩)] | 6 => .agg #[.pointer (some ⟨0, 0, none⟩)] | _ => undef) (fun i hi => ?_) zqb zqb ?_
 ·simp only [Bool.or_eq_true, beq_iff_eq] at hi
  rcases hi with rfl | rfl
  ·exact ⟨0, rfl⟩
  ·exact ⟨0, rfl⟩
 iterate 2 (first | refine zqy rfl ?_ | (refine zqo rfl ?_; apply Exists.intro))
 refine zqo rfl ⟨undef, ?_⟩
 iterate 3 (first | refine zqy rfl ?_ | (refine zqo rfl ?_; apply Exists.intro))
 refine zqo rfl ⟨undef, ?_⟩
 iterate 3 (first | refine zqy rfl ?_ | (refine zqo rfl ?_; apply Exists.intro))
 refine zqb8 ?_
 intro γ gv hsv hinj hbase;obtain ⟨g1, e1⟩ := hsv 2 rfl;obtain ⟨g2, e2⟩ := hsv 6 rfl
 (repeat (first | (refine zq0 rfl ?_; ((first | go_big_quiet_skip | (go_big_quiet_want; go_big_quiet_op; go_big_quiet_on)); refine wpQuiet_nil ?_)) | ((first | refine zqm rfl (fun _ => rfl) ?_ | (apply zqae; (focus rfl); (focus rfl); (focus rfl); (focus (intro W hC hF; (skip); go_big_quiet_want; go_big_quiet_op; (first | go_big_quiet_on | (apply Exists.intro; refine ⟨fun _ => ?_, ?_⟩; (focus ((fail))); go_big_quiet_on)); exact wpQuiet_nil rfl)); (focus (first | exact fun _ => ⟨rfl, rfl⟩ | exact fun h => absurd h (by decide))))); ((first | go_big_quiet_skip | (go_big_quiet_want; go_big_quiet_op; go_big_quiet_on)); refine wpQuiet_nil ?_)) | refine zqn rfl (fun _ => rfl) ?_))
 refine rel_callv #[.agg #[.pointer none], .string B] (enters_of Tryz.func57 zqb rfl) rfl e1 rfl rfl rfl rfl (by exact zqbm) (by first | kernel_rfl | simp [go_sem]) ?_ ?_
 ·intro W hC hF
  obtain ⟨mm, rfl⟩ := hC;refine (zqek none B _).mono ?_
  rintro e w9 ⟨g, rfl, fg, hb9⟩;exact ⟨_, rfl, ⟨g, rfl⟩, (fun v ev => by cases ev; exact ⟨g, _, rfl, fg, rfl⟩), hb9⟩
 ((first | go_big_quiet_skip | (go_big_quiet_want; go_big_quiet_op; go_big_quiet_on)); refine wpQuiet_nil ?_)
 (repeat (first | (refine zq0 rfl ?_; ((first | go_big_quiet_skip | (go_big_quiet_want; go_big_quiet_op; go_big_quiet_on)); refine wpQuiet_nil ?_)) | ((first | refine zqm rfl (fun _ => rfl) ?_ | ((try simp only [Nat.zero_add, Nat.reduceAdd]); apply zqb7 zq5; (focus rfl); (focus (intro W; simp only [List.map_toArray, List.map_cons, List.map_nil]; first | (with_reducible exact zqh0 _ W) | exact zqh0 _ W)); (focus (exact zqbm))) | (apply zqae; (focus rfl); (focus rfl); (focus rfl); (focus (intro W hC hF; (skip); go_big_quiet_want; go_big_quiet_op; (first | go_big_quiet_on | (apply Exists.intro; refine ⟨fun _ => ?_, ?_⟩; (focus ((fail))); go_big_quiet_on)); exact wpQuiet_nil rfl)); (focus (first | exact fun _ => ⟨rfl, rfl⟩ | exact fun h => absurd h (by decide))))); ((first | go_big_quiet_skip | (go_big_quiet_want; go_big_quiet_op; go_big_quiet_on)); refine wpQuiet_nil ?_)) | refine zqn rfl (fun _ => rfl) ?_))
 refine rel_callv #[.agg #[.pointer (some ⟨g1, 0, none⟩)], .slice (some ⟨γ 5, 0, none⟩) 1 1] (enters_of Tryz.func43 zqb rfl) rfl e2 rfl rfl rfl rfl (by exact zqbm) (by first | kernel_rfl | simp [go_sem]) ?_ ?_
 ·intro W hC hF
  obtain ⟨mm, rfl⟩ := hC;have hE0 : PcW [B] (.agg #[.pointer (some ⟨g1, 0, none⟩)]) (more w2 mm) := known hF (List.mem_cons_of_mem _ (List.mem_cons_self ..)) (by decide +kernel);have hE1 : Full (γ 5) (ints .u8 32 t) 44 (more w2 mm) := known hF (List.mem_cons_self ..) (by decide +kernel);refine (zql5 (fun _ => t) (some ⟨γ 5, 0, none⟩) 1 1 (some ⟨g1, 0, none⟩) _ (zqze hE1) (fun i hi => gt) (by decide)).mono ?_
  rintro e w9 ⟨g, rfl, fg, hb9⟩;exact ⟨_, rfl, ⟨g, rfl⟩, (fun v ev => by cases ev; exact ⟨g, _, rfl, fg, (hE0 _ rfl).later hb9⟩), hb9⟩
 ((first | go_big_quiet_skip | (go_big_quiet_want; go_big_quiet_op; go_big_quiet_on)); refine wpQuiet_nil ?_)
 (repeat (first | (refine zq0 rfl ?_; ((first | go_big_quiet_skip | (go_big_quiet_want; go_big_quiet_op; go_big_quiet_on)); refine wpQuiet_nil ?_)) | ((first | refine zqm rfl (fun _ => rfl) ?_ | (apply zqae; (focus rfl); (focus rfl); (focus rfl); (focus (intro W hC hF; ((try (have hE0 : PcW [zqcv (fun _ => t) 1, B] (.agg #[.pointer (some ⟨g2, 0, none⟩)]) W := known hF (List.mem_cons_self ..) (by decide +kernel)))); go_big_quiet_want; go_big_quiet_op; (first | go_big_quiet_on | (apply Exists.intro; refine ⟨fun _ => ?_, ?_⟩; (focus ((exact Calls.of_more (cT _ _ ((hE0 _ rfl).later (zql W _)))))); go_big_quiet_on)); exact wpQuiet_nil rfl)); (focus (first | exact fun _ => ⟨rfl, rfl⟩ | exact fun h => absurd h (by decide))))); ((first | go_big_quiet_skip | (go_big_quiet_want; go_big_quiet_op; go_big_quiet_on)); refine wpQuiet_nil ?_)) | refine zqn rfl (fun _ => rfl) ?_))
 (refine zqcg ?_; rintro _ ⟨mq, rfl⟩ hF; simp only [List.forall_mem_cons] at hF; obtain ⟨-, -⟩ := hF)
 replace hG := Grew.more hG mq;go_wp2;refine ⟨rfl, .tuple #[.string TX, .nilIface], ?_, by first | rfl | rw [hBB, hTX], hG⟩
 first | rfl | kernel_rfl | simp [go_sem, results]
theorem zqx9 (oa ob : Option Addr) (n c m d : Nat) (f t : Nat -> Int) (N I : Nat -> Int) (w : World) (hP : SeAt w oa n N I) (hN : ∀ j, j < n -> 0 <= N j /\ N j < 4294967296) (hn : n <= 100000) (hm : m <= 100000) (h : chkE n N m ≠ 0) :
  Calls Tryz.prog 16 #[.agg (stC (.slice oa n c) f (.slice ob m d) t)] w fun e w' => ∃ u, e = .returned (.tuple #[.string ⟨#[]⟩, u]) /\ ErV w' u (chkE n N m) /\ Below w.heap.size w w' := by
 have HP : Hid (SeAt w oa n N I) := hP;clear hP
 go_enter Tryz.func16, Tryz.ntmps16
 go_wp2_with fail;have fb : zqd (w.alloc (.cells (stC (.slice oa n c) f (.slice ob m d) t) 47)) w.heap.size = some (.cells (stC (.slice oa n c) f (.slice ob m d) t) 47) := zqh _ _ _ rfl;have hG : Below w.heap.size w (w.alloc (.cells (stC (.slice oa n c) f (.slice ob m d) t) 47)) := Grew.alloc (Grew.refl _) _;generalize w.alloc (.cells (stC (.slice oa n c) f (.slice ob m d) t) 47) = w1 at *;refine (zqy4 oa ob n c m d f t N I _ (HP.out.later hG) hN hn hm h).mono ?_
 rintro e w2 ⟨u, rfl, hu, hb⟩;replace hG := Grew.trans hG hb;have HU := hid1 hu
 rcases hu with ⟨h9, -⟩ | ⟨-, t', x, q, rfl, -⟩
 case inl => exact absurd h9 h
 go_wp2;refine ⟨rfl, .tuple #[.string ⟨#[]⟩, .iface t' x], ?_, ⟨_, rfl, HU.out, hG⟩⟩
 first | rfl | kernel_rfl | simp [go_sem, results]
end Go.Proofs.YtnjghcnhcbobhaaGreatDoor
namespace Go.Proofs.YtnjghcnhcbobhaaGreatDoor
open Go.RowKit Go.Extern
theorem zqom : Bytes 32 zqe := fun i _ => by unfold zqe; omega
theorem zq92 {W : World} {g n N : Nat} {t : TypeId} {fr : Nat × Nat} (h : zqd W g = some (.cells (ints .u8 N zqe) t fr)) (hN : n * 32 <= N) : K32At W (some ⟨g, 0, none⟩) n (fun _ => zqe) := zqg4 h hN (fun j hj i hi => by unfold zqe; rfl)
@[go_sem high] theorem zrnb (w : World) : (Instr.makeSlice 45 (.int .i64 2) (.int .i64 2)).run Tryz.prog w = .ok (.slice (some ⟨w.heap.size, 0, none⟩) 2 2) (w.alloc (.cells (ints .u8 64 zqe) 44)) := by kernel_rfl
theorem zq5p (a b c d : Int) (W : World) : (Instr.buildSlice 42 2 #[(0, .agg #[.int .u32 a, .int .u32 b]), (1, .agg #[.int .u32 c, .int .u32 d])]).run Tryz.prog W = .ok (.slice (some ⟨W.heap.size, 0, none⟩) 2 2) (W.alloc (.cells #[.int .u32 a, .int .u32 b, .int .u32 c, .int .u32 d] 63)) := by kernel_rfl
def zqhh (u v : Value) : Sem Next := do pure (.value (<- Instr.buildSlice 42 2 #[(0, u), (1, v)]))
@[go_sem ↓ high] theorem zqtt (ρ : Operand -> Value) (d : Option Tmp) (x y : Operand) (t : TypeId) (pos : String) (af : Array Edge) (g : Option (Nat × Bool)) :
  execOp ρ ⟨d, .buildSlice 42 2 #[(0, x), (1, y)], t, pos, af, g⟩ = zqhh (ρ x) (ρ y) := by
 unfold execOp zqhh
 simp
@[go_sem high] theorem zq7x (ρ : Operand -> Value) (d : Option Tmp) (x y : Operand) (t : TypeId) (pos : String) (af : Array Edge) (g : Option (Nat × Bool)) :
  execOp ρ ⟨d, .buildSlice 42 2 #[(0, x), (1, y)], t, pos, af, g⟩ = zqhh (ρ x) (ρ y) := zqtt ρ d x y t pos af g
@[go_sem] theorem zq79 (a b c d : Int) (W : World) : (zqhh (.agg #[.int .u32 a, .int .u32 b]) (.agg #[.int .u32 c, .int .u32 d])).run Tryz.prog W = .ok (.value (.slice (some ⟨W.heap.size, 0, none⟩) 2 2)) (W.alloc (.cells #[.int .u32 a, .int .u32 b, .int .u32 c, .int .u32 d] 63)) := by
 unfold zqhh
 simp only [Sem.run_bind, zq5p, Result.andThen_ok, Sem.run_pure]
def zqmw (x0 : Value) : Sem Next := do pure (.value (<- Instr.build 63 #[(0, x0)]))
@[go_sem ↓ high] theorem zrip (ρ : Operand -> Value) (dd : Option Tmp) (x0 : Operand) (t : TypeId) (pos : String) (af : Array Edge) (gg : Option (Nat × Bool)) :
  execOp ρ ⟨dd, .build 63 #[(0, x0)], t, pos, af, gg⟩ = zqmw (ρ x0) := by simp [execOp, zqmw]
@[go_sem high] theorem zreu (ρ : Operand -> Value) (dd : Option Tmp) (x0 : Operand) (t : TypeId) (pos : String) (af : Array Edge) (gg : Option (Nat × Bool)) :
  execOp ρ ⟨dd, .build 63 #[(0, x0)], t, pos, af, gg⟩ = zqmw (ρ x0) := by simp [execOp, zqmw]
theorem zqub (a : Int) (w : World) : (Instr.build 63 #[(0, .int .u32 a)]).run Tryz.prog w = .ok (.agg (#[.int .u32 a, .int .u32 0])) w := by kernel_rfl
@[go_sem] theorem zrfd (a : Int) (w : World) : (zqmw (.int .u32 a)).run Tryz.prog w = .ok (.value (.agg (#[.int .u32 a, .int .u32 0]))) w := by
 unfold zqmw;rw [Sem.run_bind, zqub]
 rfl
attribute [irreducible] zqhh zqmw
theorem zrg3 {W : World} {g : Nat} {t : TypeId} {fr : Nat × Nat} (h : zqd W g = some (.cells #[.int .u32 1, .int .u32 0, .int .u32 2, .int .u32 0] t fr)) : SeAt W (some ⟨g, 0, none⟩) 2 (fun j => (j : Int) + 1) (fun _ => 0) :=
 .inr ⟨_, rfl, zqa h, fun j hj i hi => by
  have e1 : ((⟨g, 0, none⟩ : Addr).add (j * 2)).add i = ⟨g, j * 2 + i, none⟩ := by
   rw [Go.Deep.add_add];unfold Addr.add
   split <;> simp_all
  rw [e1, cell_of_row W g (j * 2 + i) _ _ _ h]
  rcases (by omega : j = 0 \/ j = 1) with rfl | rfl <;> rcases (by omega : i = 0 \/ i = 1) with rfl | rfl <;> rfl⟩
theorem zqto (aw : ∀ (w : World), Tabs w -> EtAt w -> Calls Tryz.prog 8 #[] w (Rt w (.bool true))) (w : World) (hT : Tabs w) (hE : EtAt w) :
  Calls Tryz.prog 55 #[] w (Rt w (.bool true)) := by
 go_enter Tryz.func55, Tryz.ntmps55
 go_wp2_with fail;refine (aw _ hT hE).mono ?_
 rintro e w2 ⟨rfl, hb⟩;go_wp2;go_ret;exact ⟨rfl, hb⟩
theorem zqss (aw : ∀ (w : World), Tabs w -> EtAt w -> Calls Tryz.prog 55 #[] w (Rt w (.bool true))) (w : World) (hT : Tabs w) (hE : EtAt w) :
  Calls Tryz.prog 14 #[] w (Rt w (.bool true)) := by
 have hz := zqs8 2 (fun j => (j : Int) + 1) (fun _ => 0) zqe 2 (fun _ => zqe) zqe;have cB := fun (g g2 : Nat) (W : World) (h1 : SeAt W (some ⟨g, 0, none⟩) 2 (fun j => (j : Int) + 1) (fun _ => 0)) (h : K32At W (some ⟨g2, 0, none⟩) 2 (fun _ => zqe)) => zqhj (some ⟨g, 0, none⟩) (some ⟨g2, 0, none⟩) 2 2 2 2 zqe zqe (fun j => (j : Int) + 1) (fun _ => 0) (fun _ => zqe) W h1 (fun j hj => by omega) (fun j hj => by omega) h (fun _ _ => zqom) zqom zqom (by decide) (by decide) rfl (fun ⟨i, hi, k, hk, e⟩ => by simp only at e; omega);generalize sB 2 (fun j => (j : Int) + 1) (fun _ => 0) zqe 2 (fun _ => zqe) zqe = Z at *
 go_enter Tryz.func14, Tryz.ntmps14
 have h1 : SeAt ((w.alloc (.cells #[.int .u32 1, .int .u32 0, .int .u32 2, .int .u32 0] 63)).alloc (.cells (ints .u8 64 zqe) 44)) (some ⟨w.heap.size, 0, none⟩) 2 (fun j => (j : Int) + 1) (fun _ => 0) := zrg3 (zqj _ (zqh _ _ _ rfl));have hK : K32At ((w.alloc (.cells #[.int .u32 1, .int .u32 0, .int .u32 2, .int .u32 0] 63)).alloc (.cells (ints .u8 64 zqe) 44)) (some ⟨w.heap.size + 1, 0, none⟩) 2 (fun _ => zqe) := zq92 (zqh _ _ _ (by simp)) (by decide);have hG : Below w.heap.size w ((w.alloc (.cells #[.int .u32 1, .int .u32 0, .int .u32 2, .int .u32 0] 63)).alloc (.cells (ints .u8 64 zqe) 44)) := Grew.alloc (Grew.alloc (Grew.refl _) _) _;have cB1 := cB _ _ _ h1 hK;clear cB h1 hK;go_wp2_with fail;refine cB1.mono ?_
 rintro e w1 ⟨rfl, hb⟩;replace hG := Grew.trans hG hb;clear hb cB1;go_wp2_with fail;refine (aw _ (hT.later hG) (hE.later hG)).mono ?_
 rintro e w2 ⟨rfl, hb⟩;replace hG := Grew.trans hG hb;have hz2 : (Z.size : Int) = 148 := by omega
 go_wp2;go_ret;exact ⟨rfl, hG⟩
end Go.Proofs.YtnjghcnhcbobhaaGreatDoor
