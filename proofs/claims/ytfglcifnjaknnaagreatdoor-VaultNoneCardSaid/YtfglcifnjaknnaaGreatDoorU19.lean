/- U19 -/
import Derived.Test.YtfglcifnjaknnaaGreatDoorB17
import Derived.Test.YtfglcifnjaknnaaGreatDoorQ12
set_option linter.unusedVariables false
set_option linter.unusedSimpArgs false
set_option maxRecDepth 100000
set_option maxHeartbeats 4000000
namespace Go.Proofs.YtfglcifnjaknnaaGreatDoor
open Go.RowKit Go.Extern
theorem zqvf : ByteArray.empty.size = 0 := rfl
def uF (st lf : Int) (n : Nat) (P : Nat -> Nat -> Int) (t : Nat -> Int) : Nat -> ByteArray
 | 0 => numB 1 1
 | 1 => numB 1 3
 | 2 => numB 4 st
 | 3 => numB 2 lf
 | 4 => numB 1 (n : Int)
 | 5 => zqci P n
 | _ => zqci (fun _ => t) 1
theorem zqsf (st lf : Int) (n : Nat) (P : Nat -> Nat -> Int) (t : Nat -> Int) : (catS (uF st lf n P t) 6).size = 9 + 32 * n := by
 show (ByteArray.empty ++ numB 1 1 ++ numB 1 3 ++ numB 4 st ++ numB 2 lf ++ numB 1 (n : Int) ++ zqci P n).size = _
 simp only [ByteArray.size_append, zqgh, zqc5, zqvf]
def uB (st lf : Int) (n : Nat) (P : Nat -> Nat -> Int) (t : Nat -> Int) : ByteArray := catS (uF st lf n P t) 7
theorem zq91 (st lf : Int) (n : Nat) (P : Nat -> Nat -> Int) (t : Nat -> Int) : (uB st lf n P t).size = 41 + 32 * n := by
 show (catS (uF st lf n P t) 6 ++ zqci (fun _ => t) 1).size = _
 rw [ByteArray.size_append, zqsf, zqc5]
 omega
section
variable (st lf : Int) (n : Nat) (P : Nat -> Nat -> Int) (t : Nat -> Int)
end
end Go.Proofs.YtfglcifnjaknnaaGreatDoor
namespace Go.Proofs.YtfglcifnjaknnaaGreatDoor
open Go.RowKit Go.Lib
def uvC (s : Int) (l : Int) (b : Value) (t : Nat -> Int) : Array Value := (#[Value.int .u32 s, Value.int .u16 l, b] : Array Value) ++ ints .u8 32 t
@[go_sem] theorem zqu1 (s : Int) (l : Int) (b : Value) (t : Nat -> Int) : (uvC s l b t).size = 35 := by kernel_rfl
@[go_sem] theorem zrj1 (ob : Option Addr) (nb cb : Nat) (s : Int) (l : Int) (t : Nat -> Int) : zqa0 (uvC s l (.slice ob nb cb) t) = true := by kernel_rfl
@[go_sem] theorem zrjq (s : Int) (l : Int) (b : Value) (t : Nat -> Int) : (uvC s l b t)[0]? = some (Value.int .u32 s) := by kernel_rfl
@[go_sem] theorem zrmm (s : Int) (l : Int) (b : Value) (t : Nat -> Int) (h : 0 < (uvC s l b t).size) : (uvC s l b t)[0] = Value.int .u32 s := Option.some.inj ((Array.getElem?_eq_getElem h).symm.trans (zrjq s l b t))
@[go_sem] theorem zrg0 (s : Int) (l : Int) (b : Value) (t : Nat -> Int) (s9 : Int) : (uvC s l b t).setIfInBounds 0 (Value.int .u32 s9) = uvC s9 l b t := by kernel_rfl
@[go_sem] theorem zrlc (s : Int) (l : Int) (b : Value) (t : Nat -> Int) : (uvC s l b t)[1]? = some (Value.int .u16 l) := by kernel_rfl
@[go_sem] theorem zrmx (s : Int) (l : Int) (b : Value) (t : Nat -> Int) (h : 1 < (uvC s l b t).size) : (uvC s l b t)[1] = Value.int .u16 l := Option.some.inj ((Array.getElem?_eq_getElem h).symm.trans (zrlc s l b t))
@[go_sem] theorem zrh2 (s : Int) (l : Int) (b : Value) (t : Nat -> Int) (l9 : Int) : (uvC s l b t).setIfInBounds 1 (Value.int .u16 l9) = uvC s l9 b t := by kernel_rfl
@[go_sem] theorem zrjt (s : Int) (l : Int) (b : Value) (t : Nat -> Int) : (uvC s l b t)[2]? = some (b) := by kernel_rfl
@[go_sem] theorem zrme (s : Int) (l : Int) (b : Value) (t : Nat -> Int) (h : 2 < (uvC s l b t).size) : (uvC s l b t)[2] = b := Option.some.inj ((Array.getElem?_eq_getElem h).symm.trans (zrjt s l b t))
@[go_sem] theorem zrgt (s : Int) (l : Int) (b : Value) (t : Nat -> Int) (b9 : Value) : (uvC s l b t).setIfInBounds 2 (b9) = uvC s l b9 t := by kernel_rfl
theorem zqve (s : Int) (l : Int) (b : Value) (t : Nat -> Int) : (uvC s l b t).extract 3 (3 + 32) = ints .u8 32 t := by kernel_rfl
@[go_sem] theorem zriv : szT 191 = 35 := by kernel_rfl
@[go_sem] theorem zrkz : LdP 191 35 := ⟨fun g w => by rw [zqz, zqaw Tryz.underlying191 rfl zqb g w]⟩
@[go_sem] theorem zri4 : StP 191 35 := ⟨fun g cs w => by rw [zq6, zqar zqb g cs w]⟩
@[go_sem high] theorem zrgd (w : World) : (zeroValue 191).run Tryz.prog w = .ok (.agg (uvC 0 0 (.slice none 0 0) zqd)) w := by kernel_rfl
@[go_sem ↓ high] theorem zrig (w : World) : (zeroValue 191).run Tryz.prog w = .ok (.agg (uvC 0 0 (.slice none 0 0) zqd)) w := by kernel_rfl
@[go_sem] theorem zrhb (w : World) : (zqbm 191).run Tryz.prog w = .ok (.value (.agg (uvC 0 0 (.slice none 0 0) zqd))) w := by kernel_rfl
@[go_sem] theorem zrce (g : Nat) (w : World) : (zqah 29 (.pointer (some ⟨g, 3, none⟩))).run Tryz.prog w = (zqak Tryz.prog 29 g 3 32 w (zqe w g)).andThen fun v w' => .ok (.value v) w' := by
 rw [zqz, zqb3 Tryz.underlying29 rfl zqb g 3 w]
@[go_sem] theorem zq5b (g : Nat) (w : World) (s : Int) (l : Int) (b : Value) (t : Nat -> Int) (t' : TypeId) (fr : Nat × Nat) : zqak Tryz.prog 29 g 3 32 w (some (.cells (uvC s l b t) t' fr)) = .ok (.agg (ints .u8 32 t)) w := by
 unfold zqak
 simp only [zqu1]
 rw [if_pos (by decide), zqve]
@[go_sem] theorem zrcu (g : Nat) (w : World) : (zqah 28 (.pointer (some ⟨g, 3, none⟩))).run Tryz.prog w = (zqak Tryz.prog 28 g 3 32 w (zqe w g)).andThen fun v w' => .ok (.value v) w' := by
 rw [zqz, zqb3 Tryz.underlying28 rfl zqb g 3 w]
@[go_sem] theorem zq3q (g : Nat) (w : World) (s : Int) (l : Int) (b : Value) (t : Nat -> Int) (t' : TypeId) (fr : Nat × Nat) : zqak Tryz.prog 28 g 3 32 w (some (.cells (uvC s l b t) t' fr)) = .ok (.agg (ints .u8 32 t)) w := by
 unfold zqak
 simp only [zqu1]
 rw [if_pos (by decide), zqve]
def upB4 (x0 : Value) (x1 : Value) (x2 : Value) (x3 : Value) : Sem Next := do pure (.value (<- Instr.build 191 #[(0, x0), (1, x1), (2, x2), (3, x3)]))
@[go_sem ↓ high] theorem zrkg (ρ : Operand -> Value) (dd : Option Tmp) (x0 x1 x2 x3 : Operand) (t : TypeId) (pos : String) (af : Array Edge) (gg : Option (Nat × Bool)) :
  execOp ρ ⟨dd, .build 191 #[(0, x0), (1, x1), (2, x2), (3, x3)], t, pos, af, gg⟩ = upB4 (ρ x0) (ρ x1) (ρ x2) (ρ x3) := by simp [execOp, upB4]
@[go_sem high] theorem zrhk (ρ : Operand -> Value) (dd : Option Tmp) (x0 x1 x2 x3 : Operand) (t : TypeId) (pos : String) (af : Array Edge) (gg : Option (Nat × Bool)) :
  execOp ρ ⟨dd, .build 191 #[(0, x0), (1, x1), (2, x2), (3, x3)], t, pos, af, gg⟩ = upB4 (ρ x0) (ρ x1) (ρ x2) (ρ x3) := by simp [execOp, upB4]
theorem zqzf (s : Int) (l : Int) (ob : Option Addr) (nb cb : Nat) (t : Nat -> Int) (w : World) : (Instr.build 191 #[(0, .int .u32 s), (1, .int .u16 l), (2, .slice ob nb cb), (3, .agg (ints .u8 32 t))]).run Tryz.prog w = .ok (.agg (uvC s l (.slice ob nb cb) t)) w := by kernel_rfl
@[go_sem] theorem zrg4 (s : Int) (l : Int) (ob : Option Addr) (nb cb : Nat) (t : Nat -> Int) (w : World) : (upB4 (.int .u32 s) (.int .u16 l) (.slice ob nb cb) (.agg (ints .u8 32 t))).run Tryz.prog w = .ok (.value (.agg (uvC s l (.slice ob nb cb) t))) w := by
 unfold upB4;rw [Sem.run_bind, zqzf]
 rfl
def upB1 (x2 : Value) : Sem Next := do pure (.value (<- Instr.build 191 #[(2, x2)]))
@[go_sem ↓ high] theorem zrj7 (ρ : Operand -> Value) (dd : Option Tmp) (x2 : Operand) (t : TypeId) (pos : String) (af : Array Edge) (gg : Option (Nat × Bool)) :
  execOp ρ ⟨dd, .build 191 #[(2, x2)], t, pos, af, gg⟩ = upB1 (ρ x2) := by simp [execOp, upB1]
@[go_sem high] theorem zrhx (ρ : Operand -> Value) (dd : Option Tmp) (x2 : Operand) (t : TypeId) (pos : String) (af : Array Edge) (gg : Option (Nat × Bool)) :
  execOp ρ ⟨dd, .build 191 #[(2, x2)], t, pos, af, gg⟩ = upB1 (ρ x2) := by simp [execOp, upB1]
theorem zq1h (ob : Option Addr) (nb cb : Nat) (w : World) : (Instr.build 191 #[(2, .slice ob nb cb)]).run Tryz.prog w = .ok (.agg (uvC 0 0 (.slice ob nb cb) zqd)) w := by kernel_rfl
@[go_sem] theorem zrh3 (ob : Option Addr) (nb cb : Nat) (w : World) : (upB1 (.slice ob nb cb)).run Tryz.prog w = .ok (.value (.agg (uvC 0 0 (.slice ob nb cb) zqd))) w := by
 unfold upB1;rw [Sem.run_bind, zq1h]
 rfl
attribute [irreducible] uvC upB4 upB1
end Go.Proofs.YtfglcifnjaknnaaGreatDoor
namespace Go.Proofs.YtfglcifnjaknnaaGreatDoor
open Go.RowKit Go.Extern
theorem zqs4 (n : Int) (w : World) (h : 1 <= n /\ n <= 10) :
  Calls Tryz.prog 168 #[.int .i64 n] w (Rt w (.bool true)) := by
 obtain ⟨h1, h2⟩ := h
 go_enter Tryz.func168, Tryz.ntmps168
 go_wp2;go_ret;exact ⟨by first | rfl | simp [h1, h2], Grew.refl _⟩
theorem zqyn (n : Int) (w : World) (h : ¬ (1 <= n /\ n <= 10)) :
  Calls Tryz.prog 168 #[.int .i64 n] w (Rt w (.bool false)) := by
 go_enter Tryz.func168, Tryz.ntmps168
 by_cases h1 : 1 <= n
 ·have h2 : ¬ (n <= 10) := fun h3 => h ⟨h1, h3⟩
  go_wp2;go_ret;exact ⟨by first | rfl | simp [h1, h2], Grew.refl _⟩
 ·go_wp2
  go_ret;exact ⟨by first | rfl | simp [h1], Grew.refl _⟩
theorem zqxx (s l : Int) (oa : Option Addr) (n c : Nat) (t : Nat -> Int) (w : World) :
  Calls Tryz.prog 148 #[.agg (uvC s l (.slice oa n c) t)] w fun e w' => ∃ u, e = .returned (u) /\ ErV w' u (if 1 <= n /\ n <= 10 then 0 else 6) /\ Below w.heap.size w w' := by
 go_enter Tryz.func148, Tryz.ntmps148
 have hG : Below w.heap.size w (w.alloc (.cells (uvC s l (.slice oa n c) t) 191)) := Grew.alloc (Grew.refl _) _
 by_cases h : 1 <= n /\ n <= 10
 ·have hc := fun W => zqs4 (n : Int) W (by omega)
  rw [if_pos h];go_wp2_with fail;refine (hc _).mono ?_
  rintro e w2 ⟨rfl, hb⟩;go_wp2;go_ret;exact ⟨_, rfl, .inl ⟨rfl, rfl⟩, Grew.trans hG hb⟩
 ·have hc := fun W => zqyn (n : Int) W (by omega)
  rw [if_neg h];go_wp2_with fail;refine (hc _).mono ?_
  rintro e w2 ⟨rfl, hb⟩;go_wp2_with fail;refine (wrap_any _ _ _ _).mono ?_
  rintro e w3 ⟨rfl, rfl⟩;go_wp2;go_ret;exact ⟨_, rfl, zqg4 _ 6 (by decide), Grew.alloc (Grew.trans hG hb) _⟩
theorem zq1k (s l : Int) (oa : Option Addr) (n c : Nat) (t : Nat -> Int) (P : Nat -> Nat -> Int) (w : World) (hs : 0 <= s /\ s < 4294967296) (hl : 0 <= l /\ l < 65536) (hP : K32At w oa n P) (gP : ∀ j, j < n -> Bytes 32 (P j)) (h1 : 1 <= n) (h2 : n <= 10) :
  Calls Tryz.prog 135 #[.agg (uvC s l (.slice oa n c) t)] w (Rt w (.tuple #[.string (catS (uF s l n P t) 6), .nilIface])) := by
 have HP : Hid (K32At w oa n P) := hP;have GP := hid1 gP;clear hP gP
 go_enter Tryz.func135, Tryz.ntmps135
 go_wp2_with fail;have fb : zqe (w.alloc (.cells (uvC s l (.slice oa n c) t) 191)) w.heap.size = some (.cells (uvC s l (.slice oa n c) t) 191) := zqg _ _ _ rfl;have hG : Below w.heap.size w (w.alloc (.cells (uvC s l (.slice oa n c) t) 191)) := Grew.alloc (Grew.refl _) _;generalize w.alloc (.cells (uvC s l (.slice oa n c) t) 191) = w1 at *;refine (zqxx s l oa n c t _).mono ?_
 rintro e w2 ⟨u, rfl, hu, hb⟩;rw [if_pos ⟨h1, h2⟩] at hu;replace fb := zqc hb fb;replace hG := Grew.trans hG hb;clear hb
 rcases hu with ⟨-, rfl⟩ | ⟨h9, -⟩
 case inr => exact absurd rfl h9
 have lb := zqa fb;have hw1 : IntKind.u64.wrap s = s := by rw [IntKind.wrap_u64]; omega
 have hw2 : IntKind.u64.wrap l = l := by rw [IntKind.wrap_u64]; omega
 have hw3 : IntKind.u64.wrap (n : Int) = (n : Int) := by rw [IntKind.wrap_u64]; omega
 go_wp2_with fail;refine (zqcp 1 1 none _ (by decide) (by decide)).mono ?_
 rintro e w3 ⟨g1, rfl, f1, hb⟩;replace fb := zqc hb fb;replace hG := Grew.trans hG hb;clear hb lb;go_wp2_with fail;refine (zqcp 1 3 (some ⟨g1, 0, none⟩) _ (by decide) (by decide)).mono ?_
 rintro e w4 ⟨g2, rfl, f2, hb⟩;have HPc : Hid (Pcs (w4.alloc (.cells #[.pointer (some ⟨g2, 0, none⟩)] 224)) [numB 1 3, numB 1 1] (.pointer (some ⟨g2, 0, none⟩))) := ⟨g2, _, rfl, zqj _ f2, g1, _, rfl, zqj _ (zqc hb f1), rfl⟩
 have hgw : w.heap.size < w4.heap.size := zqa (zqc hb fb);replace fb := zqj (.cells #[.pointer (some ⟨g2, 0, none⟩)] 224) (zqc hb fb);replace hG := Grew.alloc (Grew.trans hG hb) (.cells #[.pointer (some ⟨g2, 0, none⟩)] 224);have fw : zqe (w4.alloc (.cells #[.pointer (some ⟨g2, 0, none⟩)] 224)) w4.heap.size = some (.cells #[.pointer (some ⟨g2, 0, none⟩)] 224) := zqg _ _ _ rfl;clear hb f1 f2;go_wp2_with fail;generalize w4.alloc (.cells #[.pointer (some ⟨g2, 0, none⟩)] 224) = w5 at *;generalize w4.heap.size = gw at *;have lb := zqa fb;have lw := zqa fw
 refine zqkt (fun k => k == 4 || k == 8 || k == 13) (fun k => match k with | 4 => fun u => WSh u | 8 => fun u => WSh u | 13 => fun u => WSh u | _ => fun _ => True) (fun k => match k with | 4 => fun u w => PcW [numB 4 s, numB 1 3, numB 1 1] u w | 8 => fun u w => PcW [numB 2 l, numB 4 s, numB 1 3, numB 1 1] u w | 13 => fun u w => PcW [numB 1 (n : Int), numB 2 l, numB 4 s, numB 1 3, numB 1 1] u w | _ => fun _ _ => True) (fun k => match k with | 4 => .agg #[.pointer (some ⟨0, 0, none⟩)] | 8 => .agg #[.pointer (some ⟨0, 0, none⟩)] | 13 => .agg #[.pointer (some ⟨0, 0, none⟩)] | _ => undef) (fun i hi => ?_) 14 zqb zqb zqb zqb zqb ?_
 ·simp only [Bool.or_eq_true, beq_iff_eq] at hi
  rcases hi with (rfl | rfl) | rfl
  ·exact ⟨0, rfl⟩
  ·exact ⟨0, rfl⟩
  ·exact ⟨0, rfl⟩
 simp only [List.take_succ_cons, List.take_zero]
 iterate 4 (first | refine zqv rfl ?_ | (refine zqn rfl ?_; apply Exists.intro))
 refine zqn rfl ⟨undef, ?_⟩
 iterate 3 (first | refine zqv rfl ?_ | (refine zqn rfl ?_; apply Exists.intro))
 refine zqn rfl ⟨undef, ?_⟩
 iterate 4 (first | refine zqv rfl ?_ | (refine zqn rfl ?_; apply Exists.intro))
 refine zqn rfl ⟨undef, ?_⟩;refine zqbt ?_
 intro γ gv hsv hinj hbase;obtain ⟨g3, e1⟩ := hsv 4 rfl;obtain ⟨g4, e2⟩ := hsv 8 rfl;obtain ⟨g5, e3⟩ := hsv 13 rfl
 (refine zAb ?_)
 refine zqao #[.agg #[.pointer (some ⟨g2, 0, none⟩)], .int .i64 4, .int .u64 s] (enters_of Tryz.func149 zqb rfl) rfl e1 rfl rfl rfl rfl (by exact zqat) (by first | kernel_rfl | simp [go_sem]) ?_ ?_
 ·intro W hC hF
  obtain ⟨mm, rfl⟩ := hC;refine (zqcp 4 s (some ⟨g2, 0, none⟩) _ (by omega) (by omega)).mono ?_
  rintro e w9 ⟨g, rfl, fg, hb9⟩;exact ⟨_, rfl, ⟨g, rfl⟩, (fun v ev => by cases ev; exact ⟨g, _, rfl, fg, (HPc.out.later (zqo _ _)).later hb9⟩), hb9⟩
 (refine zAa ?_)
 (refine zAb ?_)
 refine zqao #[.agg #[.pointer (some ⟨g3, 0, none⟩)], .int .i64 2, .int .u64 l] (enters_of Tryz.func149 zqb rfl) rfl e2 rfl rfl rfl rfl (by exact zqat) (by first | kernel_rfl | simp [go_sem]) ?_ ?_
 ·intro W hC hF
  obtain ⟨mm, rfl⟩ := hC;have hE0 : PcW [numB 4 s, numB 1 3, numB 1 1] (.agg #[.pointer (some ⟨g3, 0, none⟩)]) (more w5 mm) := known hF (List.mem_cons_self ..) (by decide +kernel);refine (zqcp 2 l (some ⟨g3, 0, none⟩) _ (by omega) (by omega)).mono ?_
  rintro e w9 ⟨g, rfl, fg, hb9⟩;exact ⟨_, rfl, ⟨g, rfl⟩, (fun v ev => by cases ev; exact ⟨g, _, rfl, fg, (hE0 _ rfl).later hb9⟩), hb9⟩
 (refine zAa ?_)
 (refine zAb ?_)
 refine zqao #[.agg #[.pointer (some ⟨g4, 0, none⟩)], .int .i64 1, .int .u64 (n : Int)] (enters_of Tryz.func149 zqb rfl) rfl e3 rfl rfl rfl rfl (by exact zqat) (by first | kernel_rfl | simp [go_sem]) ?_ ?_
 ·intro W hC hF
  obtain ⟨mm, rfl⟩ := hC;have hE0 : PcW [numB 2 l, numB 4 s, numB 1 3, numB 1 1] (.agg #[.pointer (some ⟨g4, 0, none⟩)]) (more w5 mm) := known hF (List.mem_cons_self ..) (by decide +kernel);refine (zqcp 1 (n : Int) (some ⟨g4, 0, none⟩) _ (by omega) (by omega)).mono ?_
  rintro e w9 ⟨g, rfl, fg, hb9⟩;exact ⟨_, rfl, ⟨g, rfl⟩, (fun v ev => by cases ev; exact ⟨g, _, rfl, fg, (hE0 _ rfl).later hb9⟩), hb9⟩
 (refine zAa ?_)
 (refine zAb ?_)
 (refine zqfr ?_; rintro _ ⟨mq, rfl⟩ hF; simp only [List.forall_mem_cons] at hF; obtain ⟨f13, -⟩ := hF)
 have hP13 := f13 _ rfl;replace hG := Grew.more hG mq;replace fb := zqp mq fb;replace fw := zqp mq fw;clear f13 hinj hbase hsv e1 e2 e3 lb lw HPc;generalize more w5 mq = w6 at *;clear γ gv;have lw := zqa fw;have lb := zqa fb
 (refine zqt (i := 14) (fuel := 0) zqb rfl ?_; intro K hK; go_simp; refine hK _ _ ?_; clear hK K)
 (refine wpAny_done zqb ?_ _)
 have HP5 : Hid (Pcs (w6.setRow gw #[.pointer (some ⟨g5, 0, none⟩)]) [numB 1 (n : Int), numB 2 l, numB 4 s, numB 1 3, numB 1 1] (.pointer (some ⟨g5, 0, none⟩))) := hP13.put fw (by decide) _;replace fb := zqk gw #[.pointer (some ⟨g5, 0, none⟩)] fb (by omega);replace fw := zqq #[.pointer (some ⟨g5, 0, none⟩)] fw;replace hG := Grew.setRow hG gw #[.pointer (some ⟨g5, 0, none⟩)] (by omega);clear hP13 lw lb;generalize w6.setRow gw #[.pointer (some ⟨g5, 0, none⟩)] = w7 at *;have lb := zqa fb;have lw := zqa fw;go_wp2_with fail;refine (zqgp P oa n c (some ⟨g5, 0, none⟩) _ (HP.out.later hG) GP.out (by omega)).mono ?_
 rintro e w8 ⟨g6, rfl, f6, hb⟩;have HP6 : Hid (Pcs w8 (revL (uF s l n P t) 6) (.pointer (some ⟨g6, 0, none⟩))) := ⟨g6, _, rfl, f6, HP5.out.later hb⟩
 replace hG := Grew.trans hG hb;have cT := fun (W : World) (hb : Below w8.heap.size w8 W) => zqgm (uF s l n P t) 6 (.pointer (some ⟨g6, 0, none⟩)) W (HP6.out.later hb) (by omega) (by rw [zqsf]; omega);generalize hTX : catS (uF s l n P t) 6 = TX at *;clear hb HP5 HP6 f6;go_wp2_with fail;refine (cT _ (Grew.refl _)).mono ?_
 rintro e w9 ⟨rfl, hb⟩;replace hG := Grew.trans hG hb;go_wp2;refine ⟨rfl, .tuple #[.string TX, .nilIface], ?_, by first | rfl | rw [hTX], hG⟩
 first | rfl | kernel_rfl | simp [go_sem, results]
def twoT (B : ByteArray) (t : Nat -> Int) : Nat -> ByteArray
 | 0 => B
 | _ => zqci (fun _ => t) 1
theorem zrew (s l : Int) (n : Nat) (P : Nat -> Nat -> Int) (t : Nat -> Int) : uB s l n P t = catS (twoT (catS (uF s l n P t) 6) t) 2 := by
 show catS (uF s l n P t) 6 ++ zqci (fun _ => t) 1 = ByteArray.empty ++ catS (uF s l n P t) 6 ++ zqci (fun _ => t) 1
 rw [ByteArray.empty_append]
theorem zqxa (s l : Int) (oa : Option Addr) (n c : Nat) (t : Nat -> Int) (P : Nat -> Nat -> Int) (w : World) (hs : 0 <= s /\ s < 4294967296) (hl : 0 <= l /\ l < 65536) (hP : K32At w oa n P) (gP : ∀ j, j < n -> Bytes 32 (P j)) (gt : Bytes 32 t) (h1 : 1 <= n) (h2 : n <= 10) :
  Calls Tryz.prog 102 #[.agg (uvC s l (.slice oa n c) t)] w (Rt w (.tuple #[.string (uB s l n P t), .nilIface])) := by
 have HP : Hid (K32At w oa n P) := hP;have GP := hid1 gP;have hz := zqsf s l n P t;rw [zrew];clear hP gP
 go_enter Tryz.func102, Tryz.ntmps102
 go_wp2_with fail;have fb : zqe (w.alloc (.cells (uvC s l (.slice oa n c) t) 191)) w.heap.size = some (.cells (uvC s l (.slice oa n c) t) 191) := zqg _ _ _ rfl;have hG : Below w.heap.size w (w.alloc (.cells (uvC s l (.slice oa n c) t) 191)) := Grew.alloc (Grew.refl _) _;generalize w.alloc (.cells (uvC s l (.slice oa n c) t) 191) = w1 at *;have cB := fun (W : World) (hb : Below w1.heap.size w1 W) => zq1k s l oa n c t P W hs hl ((HP.out.later hG).later hb) GP.out h1 h2;generalize hBB : catS (uF s l n P t) 6 = B at *;refine (cB _ (Grew.refl _)).mono ?_
 rintro e w2 ⟨rfl, hb⟩;replace fb := zqc hb fb;replace hG := Grew.trans hG hb;clear hb cB;have lb := zqa fb;have cT := fun (p : Option Addr) (W : World) (hc : Pcs W [zqci (fun _ => t) 1, B] (.pointer p)) => zqgm (twoT B t) 2 (.pointer p) W hc (by decide) (by show (ByteArray.empty ++ B ++ zqci (fun _ => t) 1).size + 2 <= _; rw [ByteArray.size_append, ByteArray.size_append, zqc5, zqvf]; omega);generalize hTX : catS (twoT B t) 2 = TX at *;go_wp2_with fail
 refine zqfo (fun k => k == 2 || k == 6) (fun k => match k with | 2 => fun u => WSh u | 6 => fun u => WSh u | _ => fun _ => True) (fun k => match k with | 2 => fun u w => PcW [B] u w | 6 => fun u w => PcW [zqci (fun _ => t) 1, B] u w | _ => fun _ _ => True) (fun k => match k with | 2 => .agg #[.pointer (some ⟨0, 0, none⟩)] | 6 => .agg #[.pointer (some ⟨0, 0, none⟩)] | _ => undef) (fun i hi => ?_) zqb zqb ?_
 ·simp only [Bool.or_eq_true, beq_iff_eq] at hi
  rcases hi with rfl | rfl
  ·exact ⟨0, rfl⟩
  ·exact ⟨0, rfl⟩
 iterate 2 (first | refine zqv rfl ?_ | (refine zqn rfl ?_; apply Exists.intro))
 refine zqn rfl ⟨undef, ?_⟩
 iterate 3 (first | refine zqv rfl ?_ | (refine zqn rfl ?_; apply Exists.intro))
 refine zqn rfl ⟨undef, ?_⟩
 iterate 3 (first | refine zqv rfl ?_ | (refine zqn rfl ?_; apply Exists.intro))
 refine zqbt ?_
 intro γ gv hsv hinj hbase;obtain ⟨g1, e1⟩ := hsv 2 rfl;obtain ⟨g2, e2⟩ := hsv 6 rfl
 (refine zAb ?_)
 refine zqao #[.agg #[.pointer none], .string B] (enters_of Tryz.func136 zqb rfl) rfl e1 rfl rfl rfl rfl (by exact zqat) (by first | kernel_rfl | simp [go_sem]) ?_ ?_
 ·intro W hC hF
  obtain ⟨mm, rfl⟩ := hC;refine (zqd2 none B _).mono ?_
  rintro e w9 ⟨g, rfl, fg, hb9⟩;exact ⟨_, rfl, ⟨g, rfl⟩, (fun v ev => by cases ev; exact ⟨g, _, rfl, fg, rfl⟩), hb9⟩
 (refine zAa ?_)
 (repeat (first | (refine zqx rfl ?_; (refine zAa ?_)) | ((first | refine zqm rfl (fun _ => rfl) ?_ | ((try simp only [Nat.zero_add, Nat.reduceAdd]); apply zqbj zqy; (focus rfl); (focus (intro W; simp only [List.map_toArray, List.map_cons, List.map_nil]; first | (with_reducible exact zqf3 _ W) | exact zqf3 _ W)); (focus (exact zqat))) | (refine zAh ?_)); (refine zAa ?_)) | refine zql rfl (fun _ => rfl) ?_))
 refine zqao #[.agg #[.pointer (some ⟨g1, 0, none⟩)], .slice (some ⟨γ 5, 0, none⟩) 1 1] (enters_of Tryz.func137 zqb rfl) rfl e2 rfl rfl rfl rfl (by exact zqat) (by first | kernel_rfl | simp [go_sem]) ?_ ?_
 ·intro W hC hF
  obtain ⟨mm, rfl⟩ := hC;have hE0 : PcW [B] (.agg #[.pointer (some ⟨g1, 0, none⟩)]) (more w2 mm) := known hF (List.mem_cons_of_mem _ (List.mem_cons_self ..)) (by decide +kernel);have hE1 : Full (γ 5) (ints .u8 32 t) 29 (more w2 mm) := known hF (List.mem_cons_self ..) (by decide +kernel);refine (zqgp (fun _ => t) (some ⟨γ 5, 0, none⟩) 1 1 (some ⟨g1, 0, none⟩) _ (zqtq hE1) (fun i hi => gt) (by decide)).mono ?_
  rintro e w9 ⟨g, rfl, fg, hb9⟩;exact ⟨_, rfl, ⟨g, rfl⟩, (fun v ev => by cases ev; exact ⟨g, _, rfl, fg, (hE0 _ rfl).later hb9⟩), hb9⟩
 (refine zAa ?_)
 (refine zAk ?_)
 (refine zqce ?_; rintro _ ⟨mq, rfl⟩ hF; simp only [List.forall_mem_cons] at hF; obtain ⟨-, -⟩ := hF)
 replace hG := Grew.more hG mq;go_wp2;refine ⟨rfl, .tuple #[.string TX, .nilIface], ?_, by first | rfl | rw [hBB, hTX], hG⟩
 first | rfl | kernel_rfl | simp [go_sem, results]
end Go.Proofs.YtfglcifnjaknnaaGreatDoor
namespace Go.Proofs.YtfglcifnjaknnaaGreatDoor
open Go.RowKit Go.Extern
open Classical in
noncomputable def dupN (N : Nat -> Int) (n : Nat) : Int := if Twice N n then 15 else 0
theorem zq51 {N : Nat -> Int} {n : Nat} (h : Twice N n) : dupN N n = 15 := if_pos h
theorem zqs7 {N : Nat -> Int} {n : Nat} (h : ¬ Twice N n) : dupN N n = 0 := if_neg h
noncomputable def chkE (n : Nat) (N : Nat -> Int) (m : Nat) : Int := if n < 2 \/ 1024 < n then 4 else if dupN N n = 15 then 15 else if m ≠ 2 * n - 2 then 6 else 0
def sF (n : Nat) (N I f : Nat -> Int) (m : Nat) (P : Nat -> Nat -> Int) (t : Nat -> Int) : Nat -> ByteArray
 | 0 => numB 1 1
 | 1 => numB 1 2
 | 2 => numB 2 (n : Int)
 | j + 3 => if j < 2 * n then (if j % 2 = 0 then numB 4 (N (j / 2)) else numB 4 (I (j / 2))) else if j = 2 * n then zqci (fun _ => f) 1 else if j = 2 * n + 1 then zqci P m else zqci (fun _ => t) 1
section
variable (n : Nat) (N I f : Nat -> Int) (m : Nat) (P : Nat -> Nat -> Int) (t : Nat -> Int)
theorem zq2p (k : Nat) (h : k < n) : sF n N I f m P t (3 + 2 * k) = numB 4 (N k) := by
 rw [show 3 + 2 * k = 2 * k + 3 by omega]
 show (if 2 * k < 2 * n then _ else _) = _
 rw [if_pos (by omega), if_pos (by omega), show 2 * k / 2 = k by omega]
theorem zq8j (k : Nat) (h : k < n) : sF n N I f m P t (3 + 2 * k + 1) = numB 4 (I k) := by
 rw [show 3 + 2 * k + 1 = (2 * k + 1) + 3 by omega]
 show (if 2 * k + 1 < 2 * n then _ else _) = _
 rw [if_pos (by omega), if_neg (by omega), show (2 * k + 1) / 2 = k by omega]
theorem sF_f : sF n N I f m P t (3 + 2 * n) = zqci (fun _ => f) 1 := by
 rw [show 3 + 2 * n = 2 * n + 3 by omega]
 show (if 2 * n < 2 * n then _ else _) = _
 rw [if_neg (by omega), if_pos rfl]
theorem sF_p : sF n N I f m P t (3 + 2 * n + 1) = zqci P m := by
 rw [show 3 + 2 * n + 1 = (2 * n + 1) + 3 by omega]
 show (if 2 * n + 1 < 2 * n then _ else _) = _
 rw [if_neg (by omega), if_neg (by omega), if_pos rfl]
theorem sF_t : sF n N I f m P t (3 + 2 * n + 2) = zqci (fun _ => t) 1 := by
 rw [show 3 + 2 * n + 2 = (2 * n + 2) + 3 by omega]
 show (if 2 * n + 2 < 2 * n then _ else _) = _
 rw [if_neg (by omega), if_neg (by omega), if_neg (by omega)]
theorem zrei (k : Nat) (h : k < n) : revL (sF n N I f m P t) (3 + 2 * (k + 1)) = numB 4 (I k) :: numB 4 (N k) :: revL (sF n N I f m P t) (3 + 2 * k) := by
 rw [show 3 + 2 * (k + 1) = 3 + 2 * k + 1 + 1 by omega]
 show sF n N I f m P t (3 + 2 * k + 1) :: sF n N I f m P t (3 + 2 * k) :: _ = _
 rw [zq8j n N I f m P t k h, zq2p n N I f m P t k h]
theorem zq59 : revL (sF n N I f m P t) (3 + 2 * 0) = [numB 2 (n : Int), numB 1 2, numB 1 1] := rfl
theorem zq9z : revL (sF n N I f m P t) (3 + 2 * n + 2) = zqci P m :: zqci (fun _ => f) 1 :: revL (sF n N I f m P t) (3 + 2 * n) := by
 show sF n N I f m P t (3 + 2 * n + 1) :: sF n N I f m P t (3 + 2 * n) :: _ = _
 rw [sF_p, sF_f]
theorem zq03 : ∀ k, k <= n -> (catS (sF n N I f m P t) (3 + 2 * k)).size = 4 + 8 * k
 | 0, _ => by
  show (ByteArray.empty ++ numB 1 1 ++ numB 1 2 ++ numB 2 (n : Int)).size = _
  simp only [ByteArray.size_append, zqgh, zqvf]
 | k + 1, h => by
  rw [show 3 + 2 * (k + 1) = 3 + 2 * k + 1 + 1 by omega]
  show (catS (sF n N I f m P t) (3 + 2 * k) ++ sF n N I f m P t (3 + 2 * k) ++ sF n N I f m P t (3 + 2 * k + 1)).size = _
  rw [ByteArray.size_append, ByteArray.size_append, zq03 k (by omega), zq8j n N I f m P t k (by omega), zq2p n N I f m P t k (by omega), zqgh, zqgh]
  omega
theorem zq4g : (catS (sF n N I f m P t) (3 + 2 * n + 1)).size = 36 + 8 * n := by
 show (catS (sF n N I f m P t) (3 + 2 * n) ++ sF n N I f m P t (3 + 2 * n)).size = _
 rw [ByteArray.size_append, zq03 n N I f m P t n (Nat.le_refl _), sF_f, zqc5]
 omega
theorem zqon : (catS (sF n N I f m P t) (3 + 2 * n + 2)).size = 36 + 8 * n + 32 * m := by
 show (catS (sF n N I f m P t) (3 + 2 * n + 1) ++ sF n N I f m P t (3 + 2 * n + 1)).size = _
 rw [ByteArray.size_append, zq4g, sF_p, zqc5]
def sB : ByteArray := catS (sF n N I f m P t) (3 + 2 * n + 3)
theorem zq7u : sB n N I f m P t = catS (sF n N I f m P t) (3 + 2 * n + 2) ++ zqci (fun _ => t) 1 := by
 show catS (sF n N I f m P t) (3 + 2 * n + 2) ++ sF n N I f m P t (3 + 2 * n + 2) = _
 rw [sF_t]
theorem zq9k : (sB n N I f m P t).size = 68 + 8 * n + 32 * m := by
 rw [zq7u, ByteArray.size_append, zqon, zqc5]
 omega
end
section
variable (n : Nat) (N I f : Nat -> Int) (m : Nat) (P : Nat -> Nat -> Int) (t : Nat -> Int)
end
end Go.Proofs.YtfglcifnjaknnaaGreatDoor
namespace Go.Proofs.YtfglcifnjaknnaaGreatDoor
open Go.RowKit Go.Lib
def SeAt (w : World) (oa : Option Addr) (n : Nat) (N I : Nat -> Int) : Prop :=
 n = 0 \/ ∃ ad : Addr, oa = some ad /\ ad.block < w.heap.size /\ ∀ j, j < n -> ∀ i, i < 2 -> w.cell? ((ad.add (j * 2)).add i) = (#[Value.int .u32 (N j), Value.int .u32 (I j)] : Array Value)[i]?
theorem SeAt.kept {B : Nat} {w' : World} {w : World} {oa : Option Addr} {n : Nat} {N I : Nat -> Int} (h : SeAt w oa n N I) (hb : Below B w w') (hB : ∀ ad, oa = some ad -> ad.block < B) : SeAt w' oa n N I := by
 rcases h with h | ⟨ad, ho, hl, hc⟩
 ·exact .inl h
 ·have hlt := hB ad ho
  refine .inr ⟨ad, ho, Nat.lt_of_lt_of_le hl hb.size, fun j hj i hi => ?_⟩;rw [hb.cell (by rw [zqeo, zqeo]; exact hlt)];exact hc j hj i hi
theorem SeAt.blk {w : World} {oa : Option Addr} {n : Nat} {N I : Nat -> Int} (h : SeAt w oa n N I) (hn : 0 < n) : ∃ ad, oa = some ad /\ ad.block < w.heap.size := by
 rcases h with h | ⟨ad, ho, hl, _⟩
 ·omega
 ·exact ⟨ad, ho, hl⟩
theorem SeAt.later {w' : World} {w : World} {oa : Option Addr} {n : Nat} {N I : Nat -> Int} (h : SeAt w oa n N I) (hb : Below w.heap.size w w') : SeAt w' oa n N I := by
 have h0 := h
 rcases h with h | ⟨ad, ho, hl, hc⟩
 ·exact .inl h
 ·exact h0.kept hb fun ad' e => by cases ho.symm.trans e; exact hl
theorem SeAt.aside {w : World} {oa : Option Addr} {n : Nat} {N I : Nat -> Int} (h : SeAt w oa n N I) (g : Nat) (hne : ∀ ad, oa = some ad -> ad.block ≠ g) (cs : Array Value) : SeAt (w.setRow g cs) oa n N I := by
 rcases h with h | ⟨ad, ho, hl, hc⟩
 ·exact .inl h
 ·refine .inr ⟨ad, ho, by rw [zq0]; exact hl, fun j hj i hi => ?_⟩
  rw [zqj1 _ _ _ _ (by rw [zqeo, zqeo]; exact hne ad ho)];exact hc j hj i hi
theorem SeAt.nil (w : World) (oa : Option Addr) (N I : Nat -> Int) : SeAt w oa 0 N I := .inl rfl
theorem SeAt.congr {w : World} {oa : Option Addr} {n : Nat} {N I : Nat -> Int} {M J : Nat -> Int} (h : SeAt w oa n N I) (hN : ∀ j, j < n -> N j = M j) (hI : ∀ j, j < n -> I j = J j) : SeAt w oa n M J := by
 rcases h with h0 | ⟨ad, ho, hl, hc⟩
 ·exact .inl h0
 ·exact .inr ⟨ad, ho, hl, fun j hj i hi => by rw [hc j hj i hi, hN j hj, hI j hj]⟩
theorem SeAt.load_se {w : World} {ad : Addr} {n : Nat} {N I : Nat -> Int} (h : SeAt w (some ad) n N I) {j : Nat} (hj : j < n) : (zqah 251 (.pointer (some (ad.add (j * 2))))).run Tryz.prog w = .ok (.value (.agg #[Value.int .u32 (N j), Value.int .u32 (I j)])) w := by
 rcases h with h | ⟨ad', ho, hl, hc⟩
 ·omega
 ·cases ho
  exact zqcm Tryz.underlying251 rfl zqb w _ _ rfl (hc j hj)
@[go_sem] theorem zrlu : szT 251 = 2 := by kernel_rfl
@[go_sem] theorem zrle : LdP 251 2 := ⟨fun g w => by rw [zqz, zqaw Tryz.underlying251 rfl zqb g w]⟩
theorem zqz1 (a b : Int) (W : World) : (Instr.buildSlice 252 1 #[(0, .agg #[.int .u32 a, .int .u32 b])]).run Tryz.prog W = .ok (.slice (some ⟨W.heap.size, 0, none⟩) 1 1) (W.alloc (.cells #[.int .u32 a, .int .u32 b] 251)) := by kernel_rfl
def seB1 (v : Value) : Sem Next := do pure (.value (<- Instr.buildSlice 252 1 #[(0, v)]))
@[go_sem ↓ high] theorem zq82 (ρ : Operand -> Value) (d : Option Tmp) (x : Operand) (t : TypeId) (pos : String) (af : Array Edge) (g : Option (Nat × Bool)) :
  execOp ρ ⟨d, .buildSlice 252 1 #[(0, x)], t, pos, af, g⟩ = seB1 (ρ x) := by
 unfold execOp seB1
 simp
@[go_sem high] theorem zrha (ρ : Operand -> Value) (d : Option Tmp) (x : Operand) (t : TypeId) (pos : String) (af : Array Edge) (g : Option (Nat × Bool)) :
  execOp ρ ⟨d, .buildSlice 252 1 #[(0, x)], t, pos, af, g⟩ = seB1 (ρ x) := zq82 ρ d x t pos af g
@[go_sem] theorem zrii (a b : Int) (W : World) : (seB1 (.agg #[.int .u32 a, .int .u32 b])).run Tryz.prog W = .ok (.value (.slice (some ⟨W.heap.size, 0, none⟩) 1 1)) (W.alloc (.cells #[.int .u32 a, .int .u32 b] 251)) := by
 unfold seB1
 simp only [Sem.run_bind, zqz1, Result.andThen_ok, Sem.run_pure]
@[go_sem ↓ high] theorem zrdd (ty : TypeId) (cs : Array Bool) (args : Array Value) : builtin .append #[252, 252] ty cs args = zqr #[252, 252] ty args := by unfold zqr; rfl
attribute [irreducible] seB1
def stC (a : Value) (f : Nat -> Int) (b : Value) (t : Nat -> Int) : Array Value := (#[a] : Array Value) ++ ints .u8 32 f ++ (#[b] : Array Value) ++ ints .u8 32 t
@[go_sem] theorem zqg2 (a : Value) (f : Nat -> Int) (b : Value) (t : Nat -> Int) : (stC a f b t).size = 66 := by kernel_rfl
@[go_sem] theorem zrlr (oa : Option Addr) (na ca : Nat) (ob : Option Addr) (nb cb : Nat) (f : Nat -> Int) (t : Nat -> Int) : zqa0 (stC (.slice oa na ca) f (.slice ob nb cb) t) = true := by kernel_rfl
@[go_sem] theorem zrjw (a : Value) (f : Nat -> Int) (b : Value) (t : Nat -> Int) : (stC a f b t)[0]? = some (a) := by kernel_rfl
@[go_sem] theorem zrmu (a : Value) (f : Nat -> Int) (b : Value) (t : Nat -> Int) (h : 0 < (stC a f b t).size) : (stC a f b t)[0] = a := Option.some.inj ((Array.getElem?_eq_getElem h).symm.trans (zrjw a f b t))
@[go_sem] theorem zrh8 (a : Value) (f : Nat -> Int) (b : Value) (t : Nat -> Int) (a9 : Value) : (stC a f b t).setIfInBounds 0 (a9) = stC a9 f b t := by kernel_rfl
theorem zqu7 (a : Value) (f : Nat -> Int) (b : Value) (t : Nat -> Int) : (stC a f b t).extract 1 (1 + 32) = ints .u8 32 f := by kernel_rfl
theorem zq3v (a : Value) (f : Nat -> Int) (b : Value) (t : Nat -> Int) (f9 : Nat -> Int) : zqbs (stC a f b t) 1 (ints .u8 32 f9).toList = stC a f9 b t := by kernel_rfl
@[go_sem] theorem zrfq (a : Value) (f : Nat -> Int) (b : Value) (t : Nat -> Int) : (stC a f b t)[33]? = some (b) := by kernel_rfl
@[go_sem] theorem zrkw (a : Value) (f : Nat -> Int) (b : Value) (t : Nat -> Int) (h : 33 < (stC a f b t).size) : (stC a f b t)[33] = b := Option.some.inj ((Array.getElem?_eq_getElem h).symm.trans (zrfq a f b t))
@[go_sem] theorem zrgf (a : Value) (f : Nat -> Int) (b : Value) (t : Nat -> Int) (b9 : Value) : (stC a f b t).setIfInBounds 33 (b9) = stC a f b9 t := by kernel_rfl
theorem zqqe (a : Value) (f : Nat -> Int) (b : Value) (t : Nat -> Int) : (stC a f b t).extract 34 (34 + 32) = ints .u8 32 t := by kernel_rfl
theorem zq2j (a : Value) (f : Nat -> Int) (b : Value) (t : Nat -> Int) (t9 : Nat -> Int) : zqbs (stC a f b t) 34 (ints .u8 32 t9).toList = stC a f b t9 := by kernel_rfl
@[go_sem] theorem zrjp : szT 254 = 66 := by kernel_rfl
@[go_sem] theorem zrk1 : LdP 254 66 := ⟨fun g w => by rw [zqz, zqaw Tryz.underlying254 rfl zqb g w]⟩
@[go_sem] theorem zrj3 : StP 254 66 := ⟨fun g cs w => by rw [zq6, zqar zqb g cs w]⟩
@[go_sem high] theorem zq83 (w : World) : (zeroValue 254).run Tryz.prog w = .ok (.agg (stC (.slice none 0 0) zqd (.slice none 0 0) zqd)) w := by kernel_rfl
@[go_sem ↓ high] theorem zrcp (w : World) : (zeroValue 254).run Tryz.prog w = .ok (.agg (stC (.slice none 0 0) zqd (.slice none 0 0) zqd)) w := by kernel_rfl
@[go_sem] theorem zrc7 (w : World) : (zqbm 254).run Tryz.prog w = .ok (.value (.agg (stC (.slice none 0 0) zqd (.slice none 0 0) zqd))) w := by kernel_rfl
@[go_sem] theorem zran (g : Nat) (w : World) : (zqah 29 (.pointer (some ⟨g, 34, none⟩))).run Tryz.prog w = (zqak Tryz.prog 29 g 34 32 w (zqe w g)).andThen fun v w' => .ok (.value v) w' := by
 rw [zqz, zqb3 Tryz.underlying29 rfl zqb g 34 w]
@[go_sem] theorem zq66 (g : Nat) (w : World) (a : Value) (f : Nat -> Int) (b : Value) (t : Nat -> Int) (t' : TypeId) (fr : Nat × Nat) : zqak Tryz.prog 29 g 1 32 w (some (.cells (stC a f b t) t' fr)) = .ok (.agg (ints .u8 32 f)) w := by
 unfold zqak
 simp only [zqg2]
 rw [if_pos (by decide), zqu7]
@[go_sem] theorem zq3i (g : Nat) (w : World) (a : Value) (f : Nat -> Int) (b : Value) (t : Nat -> Int) (t' : TypeId) (fr : Nat × Nat) : zqak Tryz.prog 29 g 34 32 w (some (.cells (stC a f b t) t' fr)) = .ok (.agg (ints .u8 32 t)) w := by
 unfold zqak
 simp only [zqg2]
 rw [if_pos (by decide), zqqe]
@[go_sem] theorem zrcz (g : Nat) (w : World) : (zqah 28 (.pointer (some ⟨g, 1, none⟩))).run Tryz.prog w = (zqak Tryz.prog 28 g 1 32 w (zqe w g)).andThen fun v w' => .ok (.value v) w' := by
 rw [zqz, zqb3 Tryz.underlying28 rfl zqb g 1 w]
@[go_sem] theorem zrbf (g : Nat) (cs : Array Value) (w : World) : (zqb7 28 (.pointer (some ⟨g, 1, none⟩)) (.agg cs)).run Tryz.prog w = (zqbo Tryz.prog 28 g 1 32 (.agg cs) w (zqe w g)).andThen fun _ w' => .ok .skip w' := by
 rw [zq6, zqdk zqb g 1 cs w]
@[go_sem] theorem zq9i (g : Nat) (w : World) : (zqah 28 (.pointer (some ⟨g, 34, none⟩))).run Tryz.prog w = (zqak Tryz.prog 28 g 34 32 w (zqe w g)).andThen fun v w' => .ok (.value v) w' := by
 rw [zqz, zqb3 Tryz.underlying28 rfl zqb g 34 w]
@[go_sem] theorem zq7r (g : Nat) (cs : Array Value) (w : World) : (zqb7 28 (.pointer (some ⟨g, 34, none⟩)) (.agg cs)).run Tryz.prog w = (zqbo Tryz.prog 28 g 34 32 (.agg cs) w (zqe w g)).andThen fun _ w' => .ok .skip w' := by
 rw [zq6, zqdk zqb g 34 cs w]
@[go_sem] theorem zq4e (g : Nat) (w : World) (a : Value) (f : Nat -> Int) (b : Value) (t : Nat -> Int) (t' : TypeId) (fr : Nat × Nat) : zqak Tryz.prog 28 g 1 32 w (some (.cells (stC a f b t) t' fr)) = .ok (.agg (ints .u8 32 f)) w := by
 unfold zqak
 simp only [zqg2]
 rw [if_pos (by decide), zqu7]
@[go_sem] theorem zq3f (g : Nat) (w : World) (a : Value) (f : Nat -> Int) (b : Value) (t : Nat -> Int) (f9 : Nat -> Int) (t' : TypeId) : zqbo Tryz.prog 28 g 1 32 (.agg (ints .u8 32 f9)) w (some (.cells (stC a f b t) t' (0, 0))) = .ok () (w.setRow g (stC a f9 b t)) := by
 unfold zqbo
 simp only [zqi, zqg2]
 rw [if_pos ⟨by decide, by trivial, zqc7 _ _ _⟩, zq3v]
@[go_sem] theorem zq3c (g : Nat) (w : World) (a : Value) (f : Nat -> Int) (b : Value) (t : Nat -> Int) (t' : TypeId) (fr : Nat × Nat) : zqak Tryz.prog 28 g 34 32 w (some (.cells (stC a f b t) t' fr)) = .ok (.agg (ints .u8 32 t)) w := by
 unfold zqak
 simp only [zqg2]
 rw [if_pos (by decide), zqqe]
@[go_sem] theorem zq2u (g : Nat) (w : World) (a : Value) (f : Nat -> Int) (b : Value) (t : Nat -> Int) (t9 : Nat -> Int) (t' : TypeId) : zqbo Tryz.prog 28 g 34 32 (.agg (ints .u8 32 t9)) w (some (.cells (stC a f b t) t' (0, 0))) = .ok () (w.setRow g (stC a f b t9)) := by
 unfold zqbo
 simp only [zqi, zqg2]
 rw [if_pos ⟨by decide, by trivial, zqc7 _ _ _⟩, zq2j]
def stB4 (x0 : Value) (x1 : Value) (x2 : Value) (x3 : Value) : Sem Next := do pure (.value (<- Instr.build 254 #[(0, x0), (1, x1), (2, x2), (3, x3)]))
@[go_sem ↓ high] theorem zrk3 (ρ : Operand -> Value) (dd : Option Tmp) (x0 x1 x2 x3 : Operand) (t : TypeId) (pos : String) (af : Array Edge) (gg : Option (Nat × Bool)) :
  execOp ρ ⟨dd, .build 254 #[(0, x0), (1, x1), (2, x2), (3, x3)], t, pos, af, gg⟩ = stB4 (ρ x0) (ρ x1) (ρ x2) (ρ x3) := by simp [execOp, stB4]
@[go_sem high] theorem zrh1 (ρ : Operand -> Value) (dd : Option Tmp) (x0 x1 x2 x3 : Operand) (t : TypeId) (pos : String) (af : Array Edge) (gg : Option (Nat × Bool)) :
  execOp ρ ⟨dd, .build 254 #[(0, x0), (1, x1), (2, x2), (3, x3)], t, pos, af, gg⟩ = stB4 (ρ x0) (ρ x1) (ρ x2) (ρ x3) := by simp [execOp, stB4]
theorem zq0s (oa : Option Addr) (na ca : Nat) (f : Nat -> Int) (ob : Option Addr) (nb cb : Nat) (t : Nat -> Int) (w : World) : (Instr.build 254 #[(0, .slice oa na ca), (1, .agg (ints .u8 32 f)), (2, .slice ob nb cb), (3, .agg (ints .u8 32 t))]).run Tryz.prog w = .ok (.agg (stC (.slice oa na ca) f (.slice ob nb cb) t)) w := by kernel_rfl
@[go_sem] theorem zrh7 (oa : Option Addr) (na ca : Nat) (f : Nat -> Int) (ob : Option Addr) (nb cb : Nat) (t : Nat -> Int) (w : World) : (stB4 (.slice oa na ca) (.agg (ints .u8 32 f)) (.slice ob nb cb) (.agg (ints .u8 32 t))).run Tryz.prog w = .ok (.value (.agg (stC (.slice oa na ca) f (.slice ob nb cb) t))) w := by
 unfold stB4;rw [Sem.run_bind, zq0s]
 rfl
def stB2 (x0 : Value) (x2 : Value) : Sem Next := do pure (.value (<- Instr.build 254 #[(0, x0), (2, x2)]))
@[go_sem ↓ high] theorem zri3 (ρ : Operand -> Value) (dd : Option Tmp) (x0 x2 : Operand) (t : TypeId) (pos : String) (af : Array Edge) (gg : Option (Nat × Bool)) :
  execOp ρ ⟨dd, .build 254 #[(0, x0), (2, x2)], t, pos, af, gg⟩ = stB2 (ρ x0) (ρ x2) := by simp [execOp, stB2]
@[go_sem high] theorem zrh6 (ρ : Operand -> Value) (dd : Option Tmp) (x0 x2 : Operand) (t : TypeId) (pos : String) (af : Array Edge) (gg : Option (Nat × Bool)) :
  execOp ρ ⟨dd, .build 254 #[(0, x0), (2, x2)], t, pos, af, gg⟩ = stB2 (ρ x0) (ρ x2) := by simp [execOp, stB2]
theorem zqzd (oa : Option Addr) (na ca : Nat) (ob : Option Addr) (nb cb : Nat) (w : World) : (Instr.build 254 #[(0, .slice oa na ca), (2, .slice ob nb cb)]).run Tryz.prog w = .ok (.agg (stC (.slice oa na ca) zqd (.slice ob nb cb) zqd)) w := by kernel_rfl
@[go_sem] theorem zrh4 (oa : Option Addr) (na ca : Nat) (ob : Option Addr) (nb cb : Nat) (w : World) : (stB2 (.slice oa na ca) (.slice ob nb cb)).run Tryz.prog w = .ok (.value (.agg (stC (.slice oa na ca) zqd (.slice ob nb cb) zqd))) w := by
 unfold stB2;rw [Sem.run_bind, zqzd]
 rfl
attribute [irreducible] stC stB4 stB2
end Go.Proofs.YtfglcifnjaknnaaGreatDoor
namespace Go.Proofs.YtfglcifnjaknnaaGreatDoor
open Go.RowKit Go.Maps
def nmD (N : Nat -> Int) : Nat -> DataW Unit
 | 0 => .map []
 | k + 1 => (nmD N k).put (klit (N k)) (.lit (.bool true))
theorem zq75 (f : Nat -> Int) : ∀ k, Tidy (nmD f k) /\ Maps.size (nmD f k) <= k /\ (∀ v, Maps.has (nmD f k) (klit v) = true ↔ ∃ j, j < k /\ f j = v) /\ (¬ Twice f k -> Maps.size (nmD f k) = k) /\ (Twice f k -> Maps.size (nmD f k) < k)
 | 0 => ⟨tidy_empty, Nat.le_refl _, fun v => Iff.intro (fun h => by cases h) (fun ⟨j, hj, _⟩ => by omega), fun _ => rfl, fun ⟨a, ha, _⟩ => by omega⟩
 | k + 1 => by
  obtain ⟨h1, h2, h3, h4, h5⟩ := zq75 f k;have hs := size_put (k := klit (f k)) h1 (.lit (.bool true));have he : nmD f (k + 1) = (nmD f k).put (klit (f k)) (.lit (.bool true)) := rfl;rw [<- he] at hs;refine ⟨h1.put (zqfs _) _, ?_, fun v => ?_, fun h => ?_, fun ⟨a, ha, b, hb, e⟩ => ?_⟩
  ·rw [hs]; split <;> omega
  ·by_cases e : v = f k
   ·subst e
    rw [he, has_put_same h1.isMap (zqfs _)];exact ⟨fun _ => ⟨k, by omega, rfl⟩, fun _ => rfl⟩
   ·rw [he, has_put_other (fun h => e (zqg3 h)), h3]
    exact ⟨fun ⟨j, hj, h⟩ => ⟨j, by omega, h⟩, fun ⟨j, hj, h⟩ => ⟨j, by
     rcases (by omega : j < k \/ j = k) with hj' | rfl
     ·exact hj'
     ·exact absurd h.symm e, h⟩⟩
  ·have hn : ¬ (Maps.has (nmD f k) (klit (f k)) = true) := fun hh => by
    obtain ⟨j, hj, e⟩ := (h3 _).1 hh;exact h ⟨k, by omega, j, hj, e.symm⟩
   rw [hs, if_neg hn, h4 fun ⟨a, ha, b, hb, e⟩ => h ⟨a, by omega, b, hb, e⟩]
  ·rw [hs]
   rcases (by omega : a < k \/ a = k) with ha' | rfl
   ·have := h5 ⟨a, ha', b, hb, e⟩
    split <;> omega
   ·rw [if_pos ((h3 _).2 ⟨b, hb, e.symm⟩)]
    omega
theorem zq2i (n : Int) (w : World) (h : 2 <= n /\ n <= 1024) :
  Calls Tryz.prog 189 #[.int .i64 n] w (Rt w (.bool true)) := by
 obtain ⟨h1, h2⟩ := h
 go_enter Tryz.func189, Tryz.ntmps189
 go_wp2;go_ret;exact ⟨by first | rfl | simp [h1, h2], Grew.refl _⟩
theorem zq55 (n : Int) (w : World) (h : ¬ (2 <= n /\ n <= 1024)) :
  Calls Tryz.prog 189 #[.int .i64 n] w (Rt w (.bool false)) := by
 go_enter Tryz.func189, Tryz.ntmps189
 by_cases h1 : 2 <= n
 ·have h2 : ¬ (n <= 1024) := fun h3 => h ⟨h1, h3⟩
  go_wp2;go_ret;exact ⟨by first | rfl | simp [h1, h2], Grew.refl _⟩
 ·go_wp2
  go_ret;exact ⟨by first | rfl | simp [h1], Grew.refl _⟩
theorem zqo1 (n : Int) (w : World) (h0 : 0 <= n) (h1 : n <= 1000000) :
  Calls Tryz.prog 191 #[.int .i64 n] w (Rt w (.int .i64 (2 * n - 2))) := by
 go_enter Tryz.func191, Tryz.ntmps191
 go_wp2;go_ret;exact ⟨rfl, Grew.refl _⟩
def zri1 (N : Nat -> Int) (n : Nat) (w : World) (e : Ending) (w' : World) : Prop := ∃ b : Bool, e = .returned (.bool b) /\ (b = true ↔ Twice N n) /\ Below w.heap.size w w'
theorem zqx0 (oa ob : Option Addr) (n c m d : Nat) (f t : Nat -> Int) (N I : Nat -> Int) (w : World) (hn : n <= 2000) (hP : SeAt w oa n N I) (hN : ∀ j, j < n -> 0 <= N j /\ N j < 4294967296) :
  Calls Tryz.prog 190 #[.agg (stC (.slice oa n c) f (.slice ob m d) t)] w (zri1 N n w) := by
 have HP : Hid (SeAt w oa n N I) := hP;have HN := hid1 hN;clear hP hN;have hmm := @run_makeMap Tryz.prog;have LK : Keyed Tryz.prog 23 := int_keyed Tryz.underlying23
 go_enter Tryz.func190, Tryz.ntmps190
 go_wp2_with fail;have fs : zqe ((w.alloc (.cells (stC (.slice oa n c) f (.slice ob m d) t) 254)).alloc (.map #[] 0)) w.heap.size = some (.cells (stC (.slice oa n c) f (.slice ob m d) t) 254) := zqj _ (zqg _ _ _ rfl);have hmp : Hid (((w.alloc (.cells (stC (.slice oa n c) f (.slice ob m d) t) 254)).alloc (.map #[] 0)).ownsMap Tryz.prog 23 (plainElem (H := Unit) Tryz.prog 4) (w.heap.size + 1) 0 (.map [])) := by
  have := World.ownsMap_made (w.alloc (.cells (stC (.slice oa n c) f (.slice ob m d) t) 254)) Tryz.prog 23 (plainElem (H := Unit) Tryz.prog 4);rwa [World.size_alloc] at this
 have hG : Below w.heap.size w ((w.alloc (.cells (stC (.slice oa n c) f (.slice ob m d) t) 254)).alloc (.map #[] 0)) := Grew.alloc (Grew.alloc (Grew.refl _) _) _;have hsz : w.heap.size + 2 <= ((w.alloc (.cells (stC (.slice oa n c) f (.slice ob m d) t) 254)).alloc (.map #[] 0)).heap.size := by simp
 clear hmm;generalize (w.alloc (.cells (stC (.slice oa n c) f (.slice ob m d) t) 254)).alloc (.map #[] 0) = w2 at *;have ls := zqa fs
 go_loopw [10] (fun i wr => ∃ k : Nat, k <= n /\ i = .int .i64 k /\ Below w.heap.size w wr /\ zqe wr w.heap.size = some (.cells (stC (.slice oa n c) f (.slice ob m d) t) 254) /\ w.heap.size + 2 <= wr.heap.size /\ Hid (wr.ownsMap Tryz.prog 23 (plainElem (H := Unit) Tryz.prog 4) (w.heap.size + 1) k (nmD N k))) (fun i _ => n - (intOf i).toNat)
 case atStart => exact ⟨0, by omega, rfl, hG, fs, hsz, hmp⟩
 case round =>
  clear hG fs hsz hmp ls;obtain ⟨k, hk, rfl, hG, fs, hsz, HM⟩ := hrel;have ls := zqa fs
  by_cases hlt : k < n
  ·have hi1 : (k : Int) < (n : Int) := by omega
   have hi0 : (0 : Int) <= (k : Int) := by omega
   obtain ⟨ad, rfl, -⟩ := HP.out.blk (by omega);have hl := (HP.out.later hG).load_se hlt;obtain ⟨hx0, hx1⟩ := HN.out k hlt;have wfk : (Lit.int .u32 (N k)).wf = true := by simp [Lit.wf, IntKind.min, IntKind.max, IntKind.signed, IntKind.bits]; omega
   have hkey : keyOf Tryz.prog 23 (.int .u32 (N k)) = some (klit (N k)) := keyOf_int_mk Tryz.underlying23 wfk;have hnext : Hid (nmD N (k + 1) = (nmD N k).put (klit (N k)) (.lit (.bool true))) := rfl;have fx : zqe (wr.alloc (.cells #[.int .u32 (N k), .int .u32 (I k)] 251)) wr.heap.size = some (.cells #[.int .u32 (N k), .int .u32 (I k)] 251) := zqg _ _ _ rfl;have fs1 := zqj (.cells #[.int .u32 (N k), .int .u32 (I k)] 251) fs;have hG1 := Grew.alloc hG (.cells #[.int .u32 (N k), .int .u32 (I k)] 251);have hsz1 : w.heap.size + 2 <= (wr.alloc (.cells #[.int .u32 (N k), .int .u32 (I k)] 251)).heap.size := by simp; omega
   have HM1 := hid1 (HM.out.alloc (.cells #[.int .u32 (N k), .int .u32 (I k)] 251));go_wp2_with (first | (at_mapUpdate; refine wpList_mapUpdate_own _ rfl _ _ _ 57 rfl 23 4 LK Tryz.underlying57 (plainElem (H := Unit) Tryz.prog 4) (w.heap.size + 1) k _ rfl HM1.out (by unfold maxLen; omega) _ _ _ rfl rfl hkey _ [] (plainElem_bool Tryz.underlying4 true) ?_) | go_in);intro w6 hown hgrow;rw [<- hnext.out] at hown;have hG6 := hG1.grown hgrow (by omega) (fun j e => by cases e; omega);have fs6 : zqe w6 w.heap.size = _ := (hgrow.block _ (by omega) (fun e => by have := Option.some.inj e; omega)).trans fs1;have hsz6 := Nat.le_trans hsz1 hgrow.size;have HM6 := hid1 hown;clear hown hgrow HM HM1 fs1 hG1 fx hl;go_wp2
   go_roundw
   case rel => first | exact ⟨k + 1, by omega, by go_num, hG6, fs6, hsz6, HM6⟩ | ((repeat' apply Exists.intro) <;> first | exact ⟨⟨k + 1, by omega, by go_num, hG6, fs6, hsz6, HM6⟩, rfl⟩ | exact undef)
   case measure => (simp [intOf]; omega)
  ·obtain rfl : k = n := by omega
   have hi1 : ¬ ((k : Int) < (k : Int)) := by omega
   have hlen := HM.out.len Tryz.underlying57 3;obtain ⟨-, -, -, s2, s1⟩ := zq75 N k;obtain ⟨s, hs⟩ : ∃ s, Maps.size (nmD N k) = s := ⟨_, rfl⟩
   rw [hs] at hlen s1 s2
   by_cases hd : Twice N k
   ·have hlt2 : (s : Int) < (k : Int) := by have := s1 hd; omega
    go_wp2;go_ret;exact ⟨true, rfl, ⟨fun _ => hd, fun _ => rfl⟩, hG⟩
   ·have hlt2 : ¬ ((s : Int) < (k : Int)) := by have := s2 hd; omega
    go_wp2;go_ret;exact ⟨false, rfl, ⟨fun h => (by cases h), fun h => absurd h hd⟩, hG⟩
theorem zqv2 (oa ob : Option Addr) (n c m d : Nat) (f t : Nat -> Int) (N I : Nat -> Int) (w : World) (hn : n <= 100000) (hm : m <= 100000) (hP : SeAt w oa n N I) (hN : ∀ j, j < n -> 0 <= N j /\ N j < 4294967296) :
  Calls Tryz.prog 181 #[.agg (stC (.slice oa n c) f (.slice ob m d) t)] w fun e w' => ∃ u, e = .returned (u) /\ ErV w' u (chkE n N m) /\ Below w.heap.size w w' := by
 have HP : Hid (SeAt w oa n N I) := hP;clear hP
 go_enter Tryz.func181, Tryz.ntmps181
 have fb : zqe (w.alloc (.cells (stC (.slice oa n c) f (.slice ob m d) t) 254)) w.heap.size = some (.cells (stC (.slice oa n c) f (.slice ob m d) t) 254) := zqg _ _ _ rfl;have hG : Below w.heap.size w (w.alloc (.cells (stC (.slice oa n c) f (.slice ob m d) t) 254)) := Grew.alloc (Grew.refl _) _;have lb := zqa fb
 by_cases h : 2 <= n /\ n <= 1024
 case neg =>
  have hE := hid1 (show chkE n N m = 4 by unfold chkE; rw [if_pos (by omega)]);have hc := fun W => zq55 (n : Int) W (by omega);go_wp2_with fail;refine (hc _).mono ?_
  rintro e w2 ⟨rfl, hb⟩;replace hG := Grew.trans hG hb;go_wp2_with fail;refine (wrap_any _ _ _ _).mono ?_
  rintro e w3 ⟨rfl, rfl⟩;go_wp2;go_ret;exact ⟨_, rfl, by rw [hE.out]; exact zqg4 _ 4 (by decide), Grew.alloc hG _⟩
 have hc := fun W => zq2i (n : Int) W (by omega);go_wp2_with fail;refine (hc _).mono ?_
 rintro e w2 ⟨rfl, hb⟩;replace fb := zqc hb fb;replace hG := Grew.trans hG hb;clear hb lb hc;have lb := zqa fb;go_wp2_with fail;refine (zqx0 oa ob n c m d f t N I _ (by omega) (HP.out.later hG) hN).mono ?_
 rintro e w3 ⟨b, rfl, hbt, hb⟩;replace fb := zqc hb fb;replace hG := Grew.trans hG hb;clear hb lb hN;have lb := zqa fb
 cases b with
 | true =>
  have hE := hid1 (show chkE n N m = 15 by unfold chkE; rw [if_neg (by omega), if_pos (zq51 (hbt.1 rfl))]);clear hbt;go_wp2_with fail;refine (wrap_any _ _ _ _).mono ?_
  rintro e w3 ⟨rfl, rfl⟩;go_wp2;go_ret;exact ⟨_, rfl, by rw [hE.out]; exact zqg4 _ 15 (by decide), Grew.alloc hG _⟩
 | false =>
  have hnd : ¬ Twice N n := fun h => by cases hbt.2 h
  have cP := fun W => zqo1 (n : Int) W (by omega) (by omega);clear hbt
  by_cases hm2 : (m : Int) = 2 * (n : Int) - 2
  ·have hE := hid1 (show chkE n N m = 0 by unfold chkE; rw [if_neg (by omega), zqs7 hnd, if_neg (by decide), if_neg (by omega)])
   have hE2 : ((m : Int) == 2 * (n : Int) - 2) = true := by simp [hm2]
   clear hnd;go_wp2_with fail
   ((first | (with_reducible refine zqab zqb zqb ?_) | refine zq2 zqb zqb ?_); (refine zAo ?_); refine wpQuiet_nil ?_; rintro _ ⟨mq, rfl⟩)
   replace hG := Grew.more hG mq;generalize more w3 mq = w4 at *;go_wp2;go_ret;exact ⟨_, rfl, by rw [hE.out]; exact .inl ⟨rfl, rfl⟩, hG⟩
  ·have hE := hid1 (show chkE n N m = 6 by unfold chkE; rw [if_neg (by omega), zqs7 hnd, if_neg (by decide), if_pos (by omega)])
   have hE2 : ((m : Int) == 2 * (n : Int) - 2) = false := by simp [hm2]
   clear hnd;go_wp2_with fail
   ((first | (with_reducible refine zqab zqb zqb ?_) | refine zq2 zqb zqb ?_); (refine zAo ?_); refine wpQuiet_nil ?_; rintro _ ⟨mq, rfl⟩)
   replace hG := Grew.more hG mq;generalize more w3 mq = w4 at *;go_wp2_with fail;refine (wrap_any _ _ _ _).mono ?_
   rintro e w3 ⟨rfl, rfl⟩;go_wp2;go_ret;exact ⟨_, rfl, by rw [hE.out]; exact zqg4 _ 6 (by decide), Grew.alloc hG _⟩
end Go.Proofs.YtfglcifnjaknnaaGreatDoor
namespace Go.Proofs.YtfglcifnjaknnaaGreatDoor
open Go.RowKit Go.Extern
theorem zrgc {n m : Nat} {N : Nat -> Int} (h2 : 2 <= n) (hn : n <= 1024) (hm : m = 2 * n - 2) (hd : ¬ Twice N n) : chkE n N m = 0 := by
 subst hm;unfold chkE;rw [if_neg (by omega), zqs7 hd, if_neg (by decide), if_neg (fun h => h rfl)]
theorem zrfc (n : Nat) (N I f : Nat -> Int) (m : Nat) (P : Nat -> Nat -> Int) (t : Nat -> Int) : sB n N I f m P t = catS (twoT (catS (sF n N I f m P t) (3 + 2 * n + 2)) t) 2 := by
 rw [zq7u];generalize catS (sF n N I f m P t) (3 + 2 * n + 2) = B
 show B ++ zqci (fun _ => t) 1 = ByteArray.empty ++ B ++ zqci (fun _ => t) 1
 rw [ByteArray.empty_append]
theorem zq0h (oa ob : Option Addr) (n c m d : Nat) (f t : Nat -> Int) (N I : Nat -> Int) (P : Nat -> Nat -> Int) (w : World) (hP : SeAt w oa n N I) (hN : ∀ j, j < n -> 0 <= N j /\ N j < 4294967296) (hI : ∀ j, j < n -> 0 <= I j /\ I j < 4294967296) (hK : K32At w ob m P) (gP : ∀ j, j < m -> Bytes 32 (P j)) (gf : Bytes 32 f) (h2 : 2 <= n) (hn : n <= 400) (hm : m = 2 * n - 2) (hd : ¬ Twice N n) :
  Calls Tryz.prog 171 #[.agg (stC (.slice oa n c) f (.slice ob m d) t)] w (Rt w (.tuple #[.string (catS (sF n N I f m P t) (3 + 2 * n + 2)), .nilIface])) := by
 have HP : Hid (SeAt w oa n N I) := hP;have HK : Hid (K32At w ob m P) := hK;have HNI := hid1 (And.intro hN hI);have GP := hid1 gP;have hE := zrgc h2 (Nat.le_trans hn (by decide)) hm hd;have hn2 : n <= 100000 := by omega
 have hm2 : m <= 1000 := by omega
 clear hP hK gP hI hm
 go_enter Tryz.func171, Tryz.ntmps171
 go_wp2_with fail;have fb : zqe (w.alloc (.cells (stC (.slice oa n c) f (.slice ob m d) t) 254)) w.heap.size = some (.cells (stC (.slice oa n c) f (.slice ob m d) t) 254) := zqg _ _ _ rfl;have hG : Below w.heap.size w (w.alloc (.cells (stC (.slice oa n c) f (.slice ob m d) t) 254)) := Grew.alloc (Grew.refl _) _;generalize w.alloc (.cells (stC (.slice oa n c) f (.slice ob m d) t) 254) = w1 at *;refine (zqv2 oa ob n c m d f t N I _ hn2 (by omega) (HP.out.later hG) hN).mono ?_
 rintro e w2 ⟨u, rfl, hu, hb⟩;rw [hE] at hu;replace fb := zqc hb fb;replace hG := Grew.trans hG hb;clear hb hN hE
 rcases hu with ⟨-, rfl⟩ | ⟨h9, -⟩
 case inr => exact absurd rfl h9
 have lb := zqa fb;have hw2 : IntKind.u64.wrap (n : Int) = (n : Int) := by rw [IntKind.wrap_u64]; omega
 go_wp2_with fail;refine zqfo (fun k => k == 1 || k == 2 || k == 7) (fun k => match k with | 1 => fun u => WSh u | 2 => fun u => WSh u | 7 => fun u => WSh u | _ => fun _ => True) (fun k => match k with | 1 => fun u w => PcW [numB 1 1] u w | 2 => fun u w => PcW [numB 1 2, numB 1 1] u w | 7 => fun u w => PcW [numB 2 (n : Int), numB 1 2, numB 1 1] u w | _ => fun _ _ => True) (fun k => match k with | 1 => .agg #[.pointer (some ⟨0, 0, none⟩)] | 2 => .agg #[.pointer (some ⟨0, 0, none⟩)] | 7 => .agg #[.pointer (some ⟨0, 0, none⟩)] | _ => undef) (fun i hi => ?_) zqb zqb ?_
 ·simp only [Bool.or_eq_true, beq_iff_eq] at hi
  rcases hi with (rfl | rfl) | rfl
  ·exact ⟨0, rfl⟩
  ·exact ⟨0, rfl⟩
  ·exact ⟨0, rfl⟩
 (first | refine zqv rfl ?_ | (refine zqn rfl ?_; apply Exists.intro))
 refine zqn rfl ⟨undef, ?_⟩;refine zqn rfl ⟨undef, ?_⟩
 iterate 4 (first | refine zqv rfl ?_ | (refine zqn rfl ?_; apply Exists.intro))
 refine zqn rfl ⟨undef, ?_⟩
 iterate 2 (first | refine zqv rfl ?_ | (refine zqn rfl ?_; apply Exists.intro))
 refine zqbt ?_
 intro γ gv hsv hinj hbase;obtain ⟨g1, e1⟩ := hsv 1 rfl;obtain ⟨g2, e2⟩ := hsv 2 rfl;obtain ⟨g3, e3⟩ := hsv 7 rfl
 (refine zAb ?_)
 refine zqao #[.agg #[.pointer none], .int .i64 1, .int .u64 1] (enters_of Tryz.func149 zqb rfl) rfl e1 rfl rfl rfl rfl (by exact zqat) (by first | kernel_rfl | simp [go_sem]) ?_ ?_
 ·intro W hC hF
  obtain ⟨mm, rfl⟩ := hC;refine (zqcp 1 1 none _ (by omega) (by omega)).mono ?_
  rintro e w9 ⟨g, rfl, fg, hb9⟩;exact ⟨_, rfl, ⟨g, rfl⟩, (fun v ev => by cases ev; exact ⟨g, _, rfl, fg, rfl⟩), hb9⟩
 (refine zAa ?_)
 (refine zAb ?_)
 refine zqao #[.agg #[.pointer (some ⟨g1, 0, none⟩)], .int .i64 1, .int .u64 2] (enters_of Tryz.func149 zqb rfl) rfl e2 rfl rfl rfl rfl (by exact zqat) (by first | kernel_rfl | simp [go_sem]) ?_ ?_
 ·intro W hC hF
  obtain ⟨mm, rfl⟩ := hC;have hE0 : PcW [numB 1 1] (.agg #[.pointer (some ⟨g1, 0, none⟩)]) (more w2 mm) := known hF (List.mem_cons_self ..) (by decide +kernel);refine (zqcp 1 2 (some ⟨g1, 0, none⟩) _ (by omega) (by omega)).mono ?_
  rintro e w9 ⟨g, rfl, fg, hb9⟩;exact ⟨_, rfl, ⟨g, rfl⟩, (fun v ev => by cases ev; exact ⟨g, _, rfl, fg, (hE0 _ rfl).later hb9⟩), hb9⟩
 (refine zAa ?_)
 (refine zAb ?_)
 refine zqao #[.agg #[.pointer (some ⟨g2, 0, none⟩)], .int .i64 2, .int .u64 (n : Int)] (enters_of Tryz.func149 zqb rfl) rfl e3 rfl rfl rfl rfl (by exact zqat) (by first | kernel_rfl | simp [go_sem]) ?_ ?_
 ·intro W hC hF
  obtain ⟨mm, rfl⟩ := hC;have hE0 : PcW [numB 1 2, numB 1 1] (.agg #[.pointer (some ⟨g2, 0, none⟩)]) (more w2 mm) := known hF (List.mem_cons_self ..) (by decide +kernel);refine (zqcp 2 (n : Int) (some ⟨g2, 0, none⟩) _ (by omega) (by omega)).mono ?_
  rintro e w9 ⟨g, rfl, fg, hb9⟩;exact ⟨_, rfl, ⟨g, rfl⟩, (fun v ev => by cases ev; exact ⟨g, _, rfl, fg, (hE0 _ rfl).later hb9⟩), hb9⟩
 (refine zAa ?_)
 (repeat (first | (refine zqx rfl ?_; (refine zAa ?_)) | ((first | refine zqm rfl (fun _ => rfl) ?_ | (refine zAn ?_) | (refine zAh ?_)); (refine zAa ?_)) | refine zql rfl (fun _ => rfl) ?_ | (refine zAl ?_)))
 (refine zqce ?_; rintro _ ⟨mq, rfl⟩ hF; simp only [List.forall_mem_cons] at hF; obtain ⟨fv, -, f3, -⟩ := hF)
 have hP3 := f3 _ rfl;replace hG := Grew.more hG mq;replace fv : zqe (more w2 mq) (γ 8) = some (.cells #[.pointer (some ⟨g3, 0, none⟩)] 224) := fv;replace fb := zqp mq fb;have HPc : Hid (Pcs (more w2 mq) (revL (sF n N I f m P t) (3 + 2 * 0)) (.pointer (some ⟨g3, 0, none⟩))) := by rw [zq59]; exact hP3
 have hgw : w.heap.size < γ 8 := Nat.lt_of_lt_of_le lb (hbase 8);clear f3 hinj hbase hsv e1 e2 e3 lb hP3;generalize γ 8 = gw at *;generalize more w2 mq = w3 at *;clear γ;have lv := zqa fv;have lb := zqa fb;go_wp2_with fail
 go_loopw [24] (fun i wr => ∃ (k : Nat) (p : Option Addr), k <= n /\ i = .int .i64 k /\ zqe wr gw = some (.cells #[.pointer p] 224) /\ Hid (Pcs wr (revL (sF n N I f m P t) (3 + 2 * k)) (.pointer p)) /\ zqe wr w.heap.size = some (.cells (stC (.slice oa n c) f (.slice ob m d) t) 254) /\ Below w.heap.size w wr) (fun i _ => n - (intOf i).toNat)
 case atStart => exact ⟨0, _, by omega, rfl, fv, HPc, fb, hG⟩
 case round =>
  clear hG fv fb HPc lv lb;obtain ⟨k, p, hk, rfl, fv, HPc, fb, hG⟩ := hrel;have lv := zqa fv;have lb := zqa fb
  by_cases hlt : k < n
  ·have hi1 : (k : Int) < (n : Int) := by omega
   have hi0 : (0 : Int) <= (k : Int) := by omega
   obtain ⟨ad, rfl, -⟩ := HP.out.blk (by omega);have hl := (HP.out.later hG).load_se hlt;have hx := HNI.out.1 k hlt;have hy := HNI.out.2 k hlt;have HR := hid1 (zrei n N I f m P t k hlt);generalize N k = x at *;generalize I k = y at *;have hw3 : IntKind.u64.wrap x = x := by rw [IntKind.wrap_u64]; omega
   have hw4 : IntKind.u64.wrap y = y := by rw [IntKind.wrap_u64]; omega
   have fp : zqe (wr.alloc (.cells #[.int .u32 x, .int .u32 y] 251)) wr.heap.size = some (.cells #[.int .u32 x, .int .u32 y] 251) := zqg _ _ _ rfl;have fv1 := zqj (.cells #[.int .u32 x, .int .u32 y] 251) fv;have fb1 := zqj (.cells #[.int .u32 x, .int .u32 y] 251) fb;have HP1 : Hid (Pcs (wr.alloc (.cells #[.int .u32 x, .int .u32 y] 251)) (revL (sF n N I f m P t) (3 + 2 * k)) (.pointer p)) := HPc.out.later (Grew.alloc (Grew.refl _) _);have hG1 := Grew.alloc hG (.cells #[.int .u32 x, .int .u32 y] 251);go_wp2_with fail;clear hl fv fb HPc hG lv lb;generalize wr.alloc (.cells #[.int .u32 x, .int .u32 y] 251) = w5 at *;generalize wr.heap.size = gp at *;have lv := zqa fv1;have lb := zqa fb1;have lp := zqa fp;generalize revL (sF n N I f m P t) (3 + 2 * k) = LL at *
   refine zqkt (fun k => k == 4 || k == 8) (fun k => match k with | 4 => fun u => WSh u | 8 => fun u => WSh u | _ => fun _ => True) (fun k => match k with | 4 => fun u w => PcW (numB 4 x :: LL) u w | 8 => fun u w => PcW (numB 4 y :: numB 4 x :: LL) u w | _ => fun _ _ => True) (fun k => match k with | 4 => .agg #[.pointer (some ⟨0, 0, none⟩)] | 8 => .agg #[.pointer (some ⟨0, 0, none⟩)] | _ => undef) (fun i hi => ?_) 9 zqb zqb zqb zqb zqb ?_
   ·simp only [Bool.or_eq_true, beq_iff_eq] at hi
    rcases hi with rfl | rfl
    ·exact ⟨0, rfl⟩
    ·exact ⟨0, rfl⟩
   simp only [List.take_succ_cons, List.take_zero]
   iterate 4 (first | refine zqv rfl ?_ | (refine zqn rfl ?_; apply Exists.intro))
   refine zqn rfl ⟨undef, ?_⟩
   iterate 3 (first | refine zqv rfl ?_ | (refine zqn rfl ?_; apply Exists.intro))
   refine zqn rfl ⟨undef, ?_⟩;refine zqbt ?_
   intro γ gv hsv hinj hbase;obtain ⟨g1, e1⟩ := hsv 4 rfl;obtain ⟨g2, e2⟩ := hsv 8 rfl
   (refine zAb ?_)
   refine zqao #[.agg #[.pointer p], .int .i64 4, .int .u64 x] (enters_of Tryz.func149 zqb rfl) rfl e1 rfl rfl rfl rfl (by exact zqat) (by first | kernel_rfl | simp [go_sem]) ?_ ?_
   ·intro W hC hF
    obtain ⟨mm, rfl⟩ := hC;refine (zqcp 4 x p _ (by omega) (by omega)).mono ?_
    rintro e w9 ⟨g, rfl, fg, hb9⟩;exact ⟨_, rfl, ⟨g, rfl⟩, (fun v ev => by cases ev; exact ⟨g, _, rfl, fg, (HP1.out.later (zqo _ _)).later hb9⟩), hb9⟩
   (refine zAa ?_)
   (refine zAb ?_)
   refine zqao #[.agg #[.pointer (some ⟨g1, 0, none⟩)], .int .i64 4, .int .u64 y] (enters_of Tryz.func149 zqb rfl) rfl e2 rfl rfl rfl rfl (by exact zqat) (by first | kernel_rfl | simp [go_sem]) ?_ ?_
   ·intro W hC hF
    obtain ⟨mm, rfl⟩ := hC;have hE0 : PcW (numB 4 x :: LL) (.agg #[.pointer (some ⟨g1, 0, none⟩)]) (more w5 mm) := known hF (List.mem_cons_self ..) (by decide +kernel);refine (zqcp 4 y (some ⟨g1, 0, none⟩) _ (by omega) (by omega)).mono ?_
    rintro e w9 ⟨g, rfl, fg, hb9⟩;exact ⟨_, rfl, ⟨g, rfl⟩, (fun v ev => by cases ev; exact ⟨g, _, rfl, fg, (hE0 _ rfl).later hb9⟩), hb9⟩
   (refine zAa ?_)
   (refine zAb ?_)
   (refine zqfr ?_; rintro _ ⟨mq, rfl⟩ hF; simp only [List.forall_mem_cons] at hF; obtain ⟨f8, -⟩ := hF)
   have hP8 := f8 _ rfl;replace hG := Grew.more hG1 mq;replace fv := zqp mq fv1;replace fb := zqp mq fb1;clear f8 hinj hbase hsv e1 e2 fp lp HP1 hG1 fv1 fb1 lv lb hx hy;generalize more w5 mq = w6 at *;clear γ gv;have lv := zqa fv
   (refine zqt (i := 9) (fuel := 0) zqb rfl ?_; intro K hK; go_simp; refine hK _ _ ?_; clear hK K)
   (refine wpAny_done zqb ?_ _)
   have HP9 : Hid (Pcs (w6.setRow gw #[.pointer (some ⟨g2, 0, none⟩)]) (revL (sF n N I f m P t) (3 + 2 * (k + 1))) (.pointer (some ⟨g2, 0, none⟩))) := by rw [HR.out]; exact hid1 (hP8.put fv (by decide) _)
   replace hG := Grew.setRow hG gw #[.pointer (some ⟨g2, 0, none⟩)] (by omega);have fb9 := zqk gw #[.pointer (some ⟨g2, 0, none⟩)] fb (by omega);have fv9 := zqq #[.pointer (some ⟨g2, 0, none⟩)] fv;clear hP8 fb fv lv;generalize w6.setRow gw #[.pointer (some ⟨g2, 0, none⟩)] = w7 at *;go_wp2
   go_roundw
   case rel => first | exact ⟨k + 1, _, by omega, by go_num, fv9, HP9, fb9, hG⟩ | ((repeat' apply Exists.intro) <;> first | exact ⟨⟨k + 1, _, by omega, by go_num, fv9, HP9, fb9, hG⟩, rfl⟩ | exact undef)
   case measure => (simp [intOf]; omega)
  ·obtain rfl : k = n := by omega
   have hi1 : ¬ ((k : Int) < (k : Int)) := by omega
   have HR := hid1 (zq9z k N I f m P t);have hsz := zqon k N I f m P t;have cT := fun (p : Option Addr) (W : World) (hc : Pcs W (revL (sF k N I f m P t) (3 + 2 * k + 2)) (.pointer p)) => zqgm (sF k N I f m P t) (3 + 2 * k + 2) (.pointer p) W hc (by omega) (by rw [hsz]; omega);rw [HR.out] at cT;have HK1 := hid1 (HK.out.later hG);generalize revL (sF k N I f m P t) (3 + 2 * k) = LL at *;generalize hTX : catS (sF k N I f m P t) (3 + 2 * k + 2) = TX at *;clear HR hsz;go_wp2_with fail
   refine zqfo (fun k => k == 4 || k == 7) (fun k => match k with | 4 => fun u => WSh u | 7 => fun u => WSh u | _ => fun _ => True) (fun k => match k with | 4 => fun u w => PcW (zqci (fun _ => f) 1 :: LL) u w | 7 => fun u w => PcW (zqci P m :: zqci (fun _ => f) 1 :: LL) u w | _ => fun _ _ => True) (fun k => match k with | 4 => .agg #[.pointer (some ⟨0, 0, none⟩)] | 7 => .agg #[.pointer (some ⟨0, 0, none⟩)] | _ => undef) (fun i hi => ?_) zqb zqb ?_
   ·simp only [Bool.or_eq_true, beq_iff_eq] at hi
    rcases hi with rfl | rfl
    ·exact ⟨0, rfl⟩
    ·exact ⟨0, rfl⟩
   iterate 4 (first | refine zqv rfl ?_ | (refine zqn rfl ?_; apply Exists.intro))
   refine zqn rfl ⟨undef, ?_⟩
   iterate 2 (first | refine zqv rfl ?_ | (refine zqn rfl ?_; apply Exists.intro))
   refine zqn rfl ⟨undef, ?_⟩
   iterate 3 (first | refine zqv rfl ?_ | (refine zqn rfl ?_; apply Exists.intro))
   refine zqbt ?_
   intro γ gv hsv hinj hbase;obtain ⟨g1, e1⟩ := hsv 4 rfl;obtain ⟨g2, e2⟩ := hsv 7 rfl
   (repeat (first | (refine zqx rfl ?_; (refine zAa ?_)) | ((first | refine zqm rfl (fun _ => rfl) ?_ | ((try simp only [Nat.zero_add, Nat.reduceAdd]); apply zqbj zqy; (focus rfl); (focus (intro W; simp only [List.map_toArray, List.map_cons, List.map_nil]; first | (with_reducible exact zqf3 _ W) | exact zqf3 _ W)); (focus (exact zqat))) | (refine zAh ?_)); (refine zAa ?_)) | refine zql rfl (fun _ => rfl) ?_))
   refine zqao #[.agg #[.pointer p], .slice (some ⟨γ 3, 0, none⟩) 1 1] (enters_of Tryz.func137 zqb rfl) rfl e1 rfl rfl rfl rfl (by exact zqat) (by first | kernel_rfl | simp [go_sem]) ?_ ?_
   ·intro W hC hF
    obtain ⟨mm, rfl⟩ := hC;have hE1 : Full (γ 3) (ints .u8 32 f) 29 (more wr mm) := known hF (List.mem_cons_self ..) (by decide +kernel);refine (zqgp (fun _ => f) (some ⟨γ 3, 0, none⟩) 1 1 p _ (zqtq hE1) (fun i hi => gf) (by decide)).mono ?_
    rintro e w9 ⟨g, rfl, fg, hb9⟩;exact ⟨_, rfl, ⟨g, rfl⟩, (fun v ev => by cases ev; exact ⟨g, _, rfl, fg, (HPc.out.later (zqo _ _)).later hb9⟩), hb9⟩
   (refine zAa ?_)
   (refine zAb ?_)
   refine zqao #[.agg #[.pointer (some ⟨g1, 0, none⟩)], .slice ob m d] (enters_of Tryz.func137 zqb rfl) rfl e2 rfl rfl rfl rfl (by exact zqat) (by first | kernel_rfl | simp [go_sem]) ?_ ?_
   ·intro W hC hF
    obtain ⟨mm, rfl⟩ := hC;have hE0 : PcW (zqci (fun _ => f) 1 :: LL) (.agg #[.pointer (some ⟨g1, 0, none⟩)]) (more wr mm) := known hF (List.mem_cons_self ..) (by decide +kernel);refine (zqgp P ob m d (some ⟨g1, 0, none⟩) _ (HK1.out.later (zqo _ _)) GP.out (by omega)).mono ?_
    rintro e w9 ⟨g, rfl, fg, hb9⟩;exact ⟨_, rfl, ⟨g, rfl⟩, (fun v ev => by cases ev; exact ⟨g, _, rfl, fg, (hE0 _ rfl).later hb9⟩), hb9⟩
   (refine zAa ?_)
   (repeat (first | (refine zqx rfl ?_; (refine zAa ?_)) | ((first | refine zqm rfl (fun _ => rfl) ?_ | (apply zqaa; (focus rfl); (focus rfl); (focus rfl); (focus (intro W hC hF; ((try (have hE0 : PcW (zqci P m :: zqci (fun _ => f) 1 :: LL) (.agg #[.pointer (some ⟨g2, 0, none⟩)]) W := known hF (List.mem_cons_self ..) (by decide +kernel)))); go_big_quiet_want; go_big_quiet_op; (first | go_big_quiet_on | (apply Exists.intro; refine ⟨fun _ => ?_, ?_⟩; (focus ((exact Calls.of_more (cT _ _ ((hE0 _ rfl).later (zqo W _)))))); go_big_quiet_on)); exact wpQuiet_nil rfl)); (focus (first | exact fun _ => ⟨rfl, rfl⟩ | exact fun h => absurd h (by decide))))); (refine zAa ?_)) | refine zql rfl (fun _ => rfl) ?_))
   (refine zqce ?_; rintro _ ⟨mq, rfl⟩ hF; simp only [List.forall_mem_cons] at hF; obtain ⟨-, -⟩ := hF)
   replace hG := Grew.more hG mq;go_wp2;refine ⟨rfl, .tuple #[.string TX, .nilIface], ?_, by first | rfl | rw [hTX], hG⟩
   first | rfl | kernel_rfl | simp [go_sem, results]
theorem zqw9 (oa ob : Option Addr) (n c m d : Nat) (f t : Nat -> Int) (N I : Nat -> Int) (P : Nat -> Nat -> Int) (w : World) (hP : SeAt w oa n N I) (hN : ∀ j, j < n -> 0 <= N j /\ N j < 4294967296) (hI : ∀ j, j < n -> 0 <= I j /\ I j < 4294967296) (hK : K32At w ob m P) (gP : ∀ j, j < m -> Bytes 32 (P j)) (gf : Bytes 32 f) (gt : Bytes 32 t) (h2 : 2 <= n) (hn : n <= 400) (hm : m = 2 * n - 2) (hd : ¬ Twice N n) :
  Calls Tryz.prog 154 #[.agg (stC (.slice oa n c) f (.slice ob m d) t)] w (Rt w (.tuple #[.string (sB n N I f m P t), .nilIface])) := by
 have HP : Hid (SeAt w oa n N I) := hP;have HK : Hid (K32At w ob m P) := hK;have HNI := hid1 (And.intro hN hI);have GP := hid1 gP;have hz := zqon n N I f m P t;have HM := hid1 hm;have hm2 : m <= 1000 := by omega
 rw [zrfc];clear hP hK hN hI gP hm
 go_enter Tryz.func154, Tryz.ntmps154
 go_wp2_with fail;have fb : zqe (w.alloc (.cells (stC (.slice oa n c) f (.slice ob m d) t) 254)) w.heap.size = some (.cells (stC (.slice oa n c) f (.slice ob m d) t) 254) := zqg _ _ _ rfl;have hG : Below w.heap.size w (w.alloc (.cells (stC (.slice oa n c) f (.slice ob m d) t) 254)) := Grew.alloc (Grew.refl _) _;generalize w.alloc (.cells (stC (.slice oa n c) f (.slice ob m d) t) 254) = w1 at *;have cB := fun (W : World) (hb : Below w1.heap.size w1 W) => zq0h oa ob n c m d f t N I P W ((HP.out.later hG).later hb) HNI.out.1 HNI.out.2 ((HK.out.later hG).later hb) GP.out gf h2 hn HM.out hd;generalize hBB : catS (sF n N I f m P t) (3 + 2 * n + 2) = B at *;refine (cB _ (Grew.refl _)).mono ?_
 rintro e w2 ⟨rfl, hb⟩;replace fb := zqc hb fb;replace hG := Grew.trans hG hb;clear hb cB;have lb := zqa fb;have cT := fun (p : Option Addr) (W : World) (hc : Pcs W [zqci (fun _ => t) 1, B] (.pointer p)) => zqgm (twoT B t) 2 (.pointer p) W hc (by decide) (by show (ByteArray.empty ++ B ++ zqci (fun _ => t) 1).size + 2 <= _; rw [ByteArray.size_append, ByteArray.size_append, zqc5, zqvf]; omega);generalize hTX : catS (twoT B t) 2 = TX at *;go_wp2_with fail
 refine zqfo (fun k => k == 2 || k == 6) (fun k => match k with | 2 => fun u => WSh u | 6 => fun u => WSh u | _ => fun _ => True) (fun k => match k with | 2 => fun u w => PcW [B] u w | 6 => fun u w => PcW [zqci (fun _ => t) 1, B] u w | _ => fun _ _ => True) (fun k => match k with | 2 => .agg #[.pointer (some ⟨0, 0, none⟩)] | 6 => .agg #[.pointer (some ⟨0, 0, none⟩)] | _ => undef) (fun i hi => ?_) zqb zqb ?_
 ·simp only [Bool.or_eq_true, beq_iff_eq] at hi
  rcases hi with rfl | rfl
  ·exact ⟨0, rfl⟩
  ·exact ⟨0, rfl⟩
 iterate 2 (first | refine zqv rfl ?_ | (refine zqn rfl ?_; apply Exists.intro))
 refine zqn rfl ⟨undef, ?_⟩
 iterate 3 (first | refine zqv rfl ?_ | (refine zqn rfl ?_; apply Exists.intro))
 refine zqn rfl ⟨undef, ?_⟩
 iterate 3 (first | refine zqv rfl ?_ | (refine zqn rfl ?_; apply Exists.intro))
 refine zqbt ?_
 intro γ gv hsv hinj hbase;obtain ⟨g1, e1⟩ := hsv 2 rfl;obtain ⟨g2, e2⟩ := hsv 6 rfl
 (refine zAb ?_)
 refine zqao #[.agg #[.pointer none], .string B] (enters_of Tryz.func136 zqb rfl) rfl e1 rfl rfl rfl rfl (by exact zqat) (by first | kernel_rfl | simp [go_sem]) ?_ ?_
 ·intro W hC hF
  obtain ⟨mm, rfl⟩ := hC;refine (zqd2 none B _).mono ?_
  rintro e w9 ⟨g, rfl, fg, hb9⟩;exact ⟨_, rfl, ⟨g, rfl⟩, (fun v ev => by cases ev; exact ⟨g, _, rfl, fg, rfl⟩), hb9⟩
 (refine zAa ?_)
 (repeat (first | (refine zqx rfl ?_; (refine zAa ?_)) | ((first | refine zqm rfl (fun _ => rfl) ?_ | ((try simp only [Nat.zero_add, Nat.reduceAdd]); apply zqbj zqy; (focus rfl); (focus (intro W; simp only [List.map_toArray, List.map_cons, List.map_nil]; first | (with_reducible exact zqf3 _ W) | exact zqf3 _ W)); (focus (exact zqat))) | (refine zAh ?_)); (refine zAa ?_)) | refine zql rfl (fun _ => rfl) ?_))
 refine zqao #[.agg #[.pointer (some ⟨g1, 0, none⟩)], .slice (some ⟨γ 5, 0, none⟩) 1 1] (enters_of Tryz.func137 zqb rfl) rfl e2 rfl rfl rfl rfl (by exact zqat) (by first | kernel_rfl | simp [go_sem]) ?_ ?_
 ·intro W hC hF
  obtain ⟨mm, rfl⟩ := hC;have hE0 : PcW [B] (.agg #[.pointer (some ⟨g1, 0, none⟩)]) (more w2 mm) := known hF (List.mem_cons_of_mem _ (List.mem_cons_self ..)) (by decide +kernel);have hE1 : Full (γ 5) (ints .u8 32 t) 29 (more w2 mm) := known hF (List.mem_cons_self ..) (by decide +kernel);refine (zqgp (fun _ => t) (some ⟨γ 5, 0, none⟩) 1 1 (some ⟨g1, 0, none⟩) _ (zqtq hE1) (fun i hi => gt) (by decide)).mono ?_
  rintro e w9 ⟨g, rfl, fg, hb9⟩;exact ⟨_, rfl, ⟨g, rfl⟩, (fun v ev => by cases ev; exact ⟨g, _, rfl, fg, (hE0 _ rfl).later hb9⟩), hb9⟩
 (refine zAa ?_)
 (refine zAk ?_)
 (refine zqce ?_; rintro _ ⟨mq, rfl⟩ hF; simp only [List.forall_mem_cons] at hF; obtain ⟨-, -⟩ := hF)
 replace hG := Grew.more hG mq;go_wp2;refine ⟨rfl, .tuple #[.string TX, .nilIface], ?_, by first | rfl | rw [hBB, hTX], hG⟩
 first | rfl | kernel_rfl | simp [go_sem, results]
theorem zqi2 : Bytes 32 zqd := fun i _ => by unfold zqd; omega
theorem zqy1 {W : World} {g n N : Nat} {t : TypeId} {fr : Nat × Nat} (h : zqe W g = some (.cells (ints .u8 N zqd) t fr)) (hN : n * 32 <= N) : K32At W (some ⟨g, 0, none⟩) n (fun _ => zqd) := zqha h hN (fun j hj i hi => by unfold zqd; rfl)
@[go_sem high] theorem zrma (w : World) : (Instr.makeSlice 44 (.int .i64 2) (.int .i64 2)).run Tryz.prog w = .ok (.slice (some ⟨w.heap.size, 0, none⟩) 2 2) (w.alloc (.cells (ints .u8 64 zqd) 29)) := by kernel_rfl
theorem zq6j (a b c d : Int) (W : World) : (Instr.buildSlice 252 2 #[(0, .agg #[.int .u32 a, .int .u32 b]), (1, .agg #[.int .u32 c, .int .u32 d])]).run Tryz.prog W = .ok (.slice (some ⟨W.heap.size, 0, none⟩) 2 2) (W.alloc (.cells #[.int .u32 a, .int .u32 b, .int .u32 c, .int .u32 d] 251)) := by kernel_rfl
def zqhe (u v : Value) : Sem Next := do pure (.value (<- Instr.buildSlice 252 2 #[(0, u), (1, v)]))
@[go_sem ↓ high] theorem zqtm (ρ : Operand -> Value) (d : Option Tmp) (x y : Operand) (t : TypeId) (pos : String) (af : Array Edge) (g : Option (Nat × Bool)) :
  execOp ρ ⟨d, .buildSlice 252 2 #[(0, x), (1, y)], t, pos, af, g⟩ = zqhe (ρ x) (ρ y) := by
 unfold execOp zqhe
 simp
@[go_sem high] theorem zq7o (ρ : Operand -> Value) (d : Option Tmp) (x y : Operand) (t : TypeId) (pos : String) (af : Array Edge) (g : Option (Nat × Bool)) :
  execOp ρ ⟨d, .buildSlice 252 2 #[(0, x), (1, y)], t, pos, af, g⟩ = zqhe (ρ x) (ρ y) := zqtm ρ d x y t pos af g
@[go_sem] theorem zq7c (a b c d : Int) (W : World) : (zqhe (.agg #[.int .u32 a, .int .u32 b]) (.agg #[.int .u32 c, .int .u32 d])).run Tryz.prog W = .ok (.value (.slice (some ⟨W.heap.size, 0, none⟩) 2 2)) (W.alloc (.cells #[.int .u32 a, .int .u32 b, .int .u32 c, .int .u32 d] 251)) := by
 unfold zqhe
 simp only [Sem.run_bind, zq6j, Result.andThen_ok, Sem.run_pure]
def zqlw (x0 : Value) : Sem Next := do pure (.value (<- Instr.build 251 #[(0, x0)]))
@[go_sem ↓ high] theorem zrec (ρ : Operand -> Value) (dd : Option Tmp) (x0 : Operand) (t : TypeId) (pos : String) (af : Array Edge) (gg : Option (Nat × Bool)) :
  execOp ρ ⟨dd, .build 251 #[(0, x0)], t, pos, af, gg⟩ = zqlw (ρ x0) := by simp [execOp, zqlw]
@[go_sem high] theorem zrc5 (ρ : Operand -> Value) (dd : Option Tmp) (x0 : Operand) (t : TypeId) (pos : String) (af : Array Edge) (gg : Option (Nat × Bool)) :
  execOp ρ ⟨dd, .build 251 #[(0, x0)], t, pos, af, gg⟩ = zqlw (ρ x0) := by simp [execOp, zqlw]
theorem zqs5 (a : Int) (w : World) : (Instr.build 251 #[(0, .int .u32 a)]).run Tryz.prog w = .ok (.agg (#[.int .u32 a, .int .u32 0])) w := by kernel_rfl
@[go_sem] theorem zrdh (a : Int) (w : World) : (zqlw (.int .u32 a)).run Tryz.prog w = .ok (.value (.agg (#[.int .u32 a, .int .u32 0]))) w := by
 unfold zqlw;rw [Sem.run_bind, zqs5]
 rfl
attribute [irreducible] zqhe zqlw
theorem zrfu {W : World} {g : Nat} {t : TypeId} {fr : Nat × Nat} (h : zqe W g = some (.cells #[.int .u32 1, .int .u32 0, .int .u32 2, .int .u32 0] t fr)) : SeAt W (some ⟨g, 0, none⟩) 2 (fun j => (j : Int) + 1) (fun _ => 0) :=
 .inr ⟨_, rfl, zqa h, fun j hj i hi => by
  have e1 : ((⟨g, 0, none⟩ : Addr).add (j * 2)).add i = ⟨g, j * 2 + i, none⟩ := by
   rw [Go.Deep.add_add];unfold Addr.add
   split <;> simp_all
  rw [e1, cell_of_row W g (j * 2 + i) _ _ _ h]
  rcases (by omega : j = 0 \/ j = 1) with rfl | rfl <;> rcases (by omega : i = 0 \/ i = 1) with rfl | rfl <;> rfl⟩
theorem zqru (aw : ∀ (w : World), Tabs w -> EtAt w -> Calls Tryz.prog 172 #[] w (Rt w (.bool true))) (w : World) (hT : Tabs w) (hE : EtAt w) :
  Calls Tryz.prog 155 #[] w (Rt w (.bool true)) := by
 go_enter Tryz.func155, Tryz.ntmps155
 go_wp2_with fail;refine (aw _ hT hE).mono ?_
 rintro e w2 ⟨rfl, hb⟩;go_wp2;go_ret;exact ⟨rfl, hb⟩
theorem zqs1 (aw : ∀ (w : World), Tabs w -> EtAt w -> Calls Tryz.prog 155 #[] w (Rt w (.bool true))) (w : World) (hT : Tabs w) (hE : EtAt w) :
  Calls Tryz.prog 139 #[] w (Rt w (.bool true)) := by
 have hz := zq9k 2 (fun j => (j : Int) + 1) (fun _ => 0) zqd 2 (fun _ => zqd) zqd;have cB := fun (g g2 : Nat) (W : World) (h1 : SeAt W (some ⟨g, 0, none⟩) 2 (fun j => (j : Int) + 1) (fun _ => 0)) (h : K32At W (some ⟨g2, 0, none⟩) 2 (fun _ => zqd)) => zqw9 (some ⟨g, 0, none⟩) (some ⟨g2, 0, none⟩) 2 2 2 2 zqd zqd (fun j => (j : Int) + 1) (fun _ => 0) (fun _ => zqd) W h1 (fun j hj => by omega) (fun j hj => by omega) h (fun _ _ => zqi2) zqi2 zqi2 (by decide) (by decide) rfl (fun ⟨i, hi, k, hk, e⟩ => by simp only at e; omega);generalize sB 2 (fun j => (j : Int) + 1) (fun _ => 0) zqd 2 (fun _ => zqd) zqd = Z at *
 go_enter Tryz.func139, Tryz.ntmps139
 have h1 : SeAt ((w.alloc (.cells #[.int .u32 1, .int .u32 0, .int .u32 2, .int .u32 0] 251)).alloc (.cells (ints .u8 64 zqd) 29)) (some ⟨w.heap.size, 0, none⟩) 2 (fun j => (j : Int) + 1) (fun _ => 0) := zrfu (zqj _ (zqg _ _ _ rfl));have hK : K32At ((w.alloc (.cells #[.int .u32 1, .int .u32 0, .int .u32 2, .int .u32 0] 251)).alloc (.cells (ints .u8 64 zqd) 29)) (some ⟨w.heap.size + 1, 0, none⟩) 2 (fun _ => zqd) := zqy1 (zqg _ _ _ (by simp)) (by decide);have hG : Below w.heap.size w ((w.alloc (.cells #[.int .u32 1, .int .u32 0, .int .u32 2, .int .u32 0] 251)).alloc (.cells (ints .u8 64 zqd) 29)) := Grew.alloc (Grew.alloc (Grew.refl _) _) _;have cB1 := cB _ _ _ h1 hK;clear cB h1 hK;go_wp2_with fail;refine cB1.mono ?_
 rintro e w1 ⟨rfl, hb⟩;replace hG := Grew.trans hG hb;clear hb cB1;go_wp2_with fail;refine (aw _ (hT.later hG) (hE.later hG)).mono ?_
 rintro e w2 ⟨rfl, hb⟩;replace hG := Grew.trans hG hb;have hz2 : (Z.size : Int) = 148 := by omega
 go_wp2;go_ret;exact ⟨rfl, hG⟩
end Go.Proofs.YtfglcifnjaknnaaGreatDoor
