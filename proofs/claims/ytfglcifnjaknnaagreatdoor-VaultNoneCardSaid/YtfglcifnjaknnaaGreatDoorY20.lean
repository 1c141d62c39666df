/- Y20 -/
import Derived.Test.YtfglcifnjaknnaaGreatDoorB17
import Derived.Test.YtfglcifnjaknnaaGreatDoorU19
import Derived.Test.YtfglcifnjaknnaaGreatDoorQ9
import Derived.Test.YtfglcifnjaknnaaGreatDoorR10
import Derived.Test.YtfglcifnjaknnaaGreatDoorRel
import Derived.Test.YtfglcifnjaknnaaGreatDoorMa
import Derived.Test.YtfglcifnjaknnaaGreatDoorR9
import Derived.Test.YtfglcifnjaknnaaGreatDoorQ12
import Derived.Test.YtfglcifnjaknnaaGreatDoorTrk
import Derived.Test.YtfglcifnjaknnaaGreatDoorE15
set_option linter.unusedVariables false
set_option linter.unusedSimpArgs false
set_option maxRecDepth 100000
set_option maxHeartbeats 4000000
namespace Go.Proofs.YtfglcifnjaknnaaGreatDoor
open Go.RowKit Go.Lib
def lkC (s : Int) (k : Nat -> Int) (y : Nat -> Int) (p : Nat -> Int) : Array Value := (#[Value.int .u32 s] : Array Value) ++ ints .u8 32 k ++ ints .u8 32 y ++ ints .u8 32 p
@[go_sem] theorem zqdq (s : Int) (k : Nat -> Int) (y : Nat -> Int) (p : Nat -> Int) : (lkC s k y p).size = 97 := by kernel_rfl
@[go_sem] theorem zqyy  (s : Int) (k : Nat -> Int) (y : Nat -> Int) (p : Nat -> Int) : zqa0 (lkC s k y p) = true := by kernel_rfl
@[go_sem] theorem zrf7 (s : Int) (k : Nat -> Int) (y : Nat -> Int) (p : Nat -> Int) : (lkC s k y p)[0]? = some (Value.int .u32 s) := by kernel_rfl
@[go_sem] theorem zrmw (s : Int) (k : Nat -> Int) (y : Nat -> Int) (p : Nat -> Int) (h : 0 < (lkC s k y p).size) : (lkC s k y p)[0] = Value.int .u32 s := Option.some.inj ((Array.getElem?_eq_getElem h).symm.trans (zrf7 s k y p))
@[go_sem] theorem zrgq (s : Int) (k : Nat -> Int) (y : Nat -> Int) (p : Nat -> Int) (s9 : Int) : (lkC s k y p).setIfInBounds 0 (Value.int .u32 s9) = lkC s9 k y p := by kernel_rfl
theorem zqks (s : Int) (k : Nat -> Int) (y : Nat -> Int) (p : Nat -> Int) : (lkC s k y p).extract 1 (1 + 32) = ints .u8 32 k := by kernel_rfl
theorem zqh2 (s : Int) (k : Nat -> Int) (y : Nat -> Int) (p : Nat -> Int) : (lkC s k y p).extract 33 (33 + 32) = ints .u8 32 y := by kernel_rfl
theorem zqh6 (s : Int) (k : Nat -> Int) (y : Nat -> Int) (p : Nat -> Int) : (lkC s k y p).extract 65 (65 + 32) = ints .u8 32 p := by kernel_rfl
def spC (r : Nat -> Int) (x : ByteArray) : Array Value := ints .u8 32 r ++ (#[Value.string x] : Array Value)
@[go_sem] theorem zqvj (r : Nat -> Int) (x : ByteArray) : (spC r x).size = 33 := by kernel_rfl
@[go_sem] theorem zrjr  (r : Nat -> Int) (x : ByteArray) : zqa0 (spC r x) = true := by kernel_rfl
theorem zq3p (r : Nat -> Int) (x : ByteArray) : (spC r x).extract 0 (0 + 32) = ints .u8 32 r := by kernel_rfl
@[go_sem] theorem zreo (r : Nat -> Int) (x : ByteArray) : (spC r x)[32]? = some (Value.string x) := by kernel_rfl
@[go_sem] theorem zrj0 (r : Nat -> Int) (x : ByteArray) (h : 32 < (spC r x).size) : (spC r x)[32] = Value.string x := Option.some.inj ((Array.getElem?_eq_getElem h).symm.trans (zreo r x))
@[go_sem] theorem zre3 (r : Nat -> Int) (x : ByteArray) (x9 : ByteArray) : (spC r x).setIfInBounds 32 (Value.string x9) = spC r x9 := by kernel_rfl
@[go_sem] theorem zrje : szT 117 = 97 := by kernel_rfl
@[go_sem] theorem zri7 : LdP 117 97 := ⟨fun g w => by rw [zqz, zqaw Tryz.underlying117 rfl zqb g w]⟩
@[go_sem] theorem zrlz : StP 117 97 := ⟨fun g cs w => by rw [zq6, zqar zqb g cs w]⟩
@[go_sem high] theorem zrcl (w : World) : (zeroValue 117).run Tryz.prog w = .ok (.agg (lkC 0 zqd zqd zqd)) w := by kernel_rfl
@[go_sem ↓ high] theorem zrfi (w : World) : (zeroValue 117).run Tryz.prog w = .ok (.agg (lkC 0 zqd zqd zqd)) w := by kernel_rfl
@[go_sem] theorem zrfg (w : World) : (zqbm 117).run Tryz.prog w = .ok (.value (.agg (lkC 0 zqd zqd zqd))) w := by kernel_rfl
@[go_sem] theorem zrjs : szT 154 = 33 := by kernel_rfl
@[go_sem] theorem zrlj : LdP 154 33 := ⟨fun g w => by rw [zqz, zqaw Tryz.underlying154 rfl zqb g w]⟩
@[go_sem] theorem zrkj : StP 154 33 := ⟨fun g cs w => by rw [zq6, zqar zqb g cs w]⟩
@[go_sem high] theorem zrbh (w : World) : (zeroValue 154).run Tryz.prog w = .ok (.agg (spC zqd ⟨#[]⟩)) w := by kernel_rfl
@[go_sem ↓ high] theorem zrc1 (w : World) : (zeroValue 154).run Tryz.prog w = .ok (.agg (spC zqd ⟨#[]⟩)) w := by kernel_rfl
@[go_sem] theorem zrc3 (w : World) : (zqbm 154).run Tryz.prog w = .ok (.value (.agg (spC zqd ⟨#[]⟩))) w := by kernel_rfl
@[go_sem] theorem zras (g : Nat) (w : World) : (zqah 29 (.pointer (some ⟨g, 33, none⟩))).run Tryz.prog w = (zqak Tryz.prog 29 g 33 32 w (zqe w g)).andThen fun v w' => .ok (.value v) w' := by
 rw [zqz, zqb3 Tryz.underlying29 rfl zqb g 33 w]
@[go_sem] theorem zq9j (g : Nat) (w : World) : (zqah 28 (.pointer (some ⟨g, 33, none⟩))).run Tryz.prog w = (zqak Tryz.prog 28 g 33 32 w (zqe w g)).andThen fun v w' => .ok (.value v) w' := by
 rw [zqz, zqb3 Tryz.underlying28 rfl zqb g 33 w]
@[go_sem] theorem zram (g : Nat) (w : World) : (zqah 29 (.pointer (some ⟨g, 65, none⟩))).run Tryz.prog w = (zqak Tryz.prog 29 g 65 32 w (zqe w g)).andThen fun v w' => .ok (.value v) w' := by
 rw [zqz, zqb3 Tryz.underlying29 rfl zqb g 65 w]
@[go_sem] theorem zraq (g : Nat) (w : World) : (zqah 28 (.pointer (some ⟨g, 65, none⟩))).run Tryz.prog w = (zqak Tryz.prog 28 g 65 32 w (zqe w g)).andThen fun v w' => .ok (.value v) w' := by
 rw [zqz, zqb3 Tryz.underlying28 rfl zqb g 65 w]
@[go_sem] theorem zq6q (g : Nat) (w : World) (s : Int) (k : Nat -> Int) (y : Nat -> Int) (p : Nat -> Int) (t' : TypeId) (fr : Nat × Nat) : zqak Tryz.prog 29 g 1 32 w (some (.cells (lkC s k y p) t' fr)) = .ok (.agg (ints .u8 32 k)) w := by
 unfold zqak
 simp only [zqdq]
 rw [if_pos (by decide), zqks]
@[go_sem] theorem zq3b (g : Nat) (w : World) (s : Int) (k : Nat -> Int) (y : Nat -> Int) (p : Nat -> Int) (t' : TypeId) (fr : Nat × Nat) : zqak Tryz.prog 29 g 33 32 w (some (.cells (lkC s k y p) t' fr)) = .ok (.agg (ints .u8 32 y)) w := by
 unfold zqak
 simp only [zqdq]
 rw [if_pos (by decide), zqh2]
@[go_sem] theorem zq3a (g : Nat) (w : World) (s : Int) (k : Nat -> Int) (y : Nat -> Int) (p : Nat -> Int) (t' : TypeId) (fr : Nat × Nat) : zqak Tryz.prog 29 g 65 32 w (some (.cells (lkC s k y p) t' fr)) = .ok (.agg (ints .u8 32 p)) w := by
 unfold zqak
 simp only [zqdq]
 rw [if_pos (by decide), zqh6]
@[go_sem] theorem zq67 (g : Nat) (w : World) (s : Int) (k : Nat -> Int) (y : Nat -> Int) (p : Nat -> Int) (t' : TypeId) (fr : Nat × Nat) : zqak Tryz.prog 28 g 1 32 w (some (.cells (lkC s k y p) t' fr)) = .ok (.agg (ints .u8 32 k)) w := by
 unfold zqak
 simp only [zqdq]
 rw [if_pos (by decide), zqks]
@[go_sem] theorem zq3h (g : Nat) (w : World) (s : Int) (k : Nat -> Int) (y : Nat -> Int) (p : Nat -> Int) (t' : TypeId) (fr : Nat × Nat) : zqak Tryz.prog 28 g 33 32 w (some (.cells (lkC s k y p) t' fr)) = .ok (.agg (ints .u8 32 y)) w := by
 unfold zqak
 simp only [zqdq]
 rw [if_pos (by decide), zqh2]
@[go_sem] theorem zq3d (g : Nat) (w : World) (s : Int) (k : Nat -> Int) (y : Nat -> Int) (p : Nat -> Int) (t' : TypeId) (fr : Nat × Nat) : zqak Tryz.prog 28 g 65 32 w (some (.cells (lkC s k y p) t' fr)) = .ok (.agg (ints .u8 32 p)) w := by
 unfold zqak
 simp only [zqdq]
 rw [if_pos (by decide), zqh6]
@[go_sem] theorem zq4l (g : Nat) (w : World) (r : Nat -> Int) (x : ByteArray) (t' : TypeId) (fr : Nat × Nat) : zqcw Tryz.prog 29 g 32 w (some (.cells (spC r x) t' fr)) = .ok (.agg (ints .u8 32 r)) w := by
 unfold zqcw
 simp only [zqvj]
 rw [if_neg (by decide), if_pos (by decide)];exact congrArg (fun x => Result.ok (Value.agg x) w) (zq3p r x)
def lkB4 (x0 : Value) (x1 : Value) (x2 : Value) (x3 : Value) : Sem Next := do pure (.value (<- Instr.build 117 #[(0, x0), (1, x1), (2, x2), (3, x3)]))
@[go_sem ↓ high] theorem zrk5 (ρ : Operand -> Value) (dd : Option Tmp) (x0 x1 x2 x3 : Operand) (t : TypeId) (pos : String) (af : Array Edge) (gg : Option (Nat × Bool)) :
  execOp ρ ⟨dd, .build 117 #[(0, x0), (1, x1), (2, x2), (3, x3)], t, pos, af, gg⟩ = lkB4 (ρ x0) (ρ x1) (ρ x2) (ρ x3) := by simp [execOp, lkB4]
@[go_sem high] theorem zrhu (ρ : Operand -> Value) (dd : Option Tmp) (x0 x1 x2 x3 : Operand) (t : TypeId) (pos : String) (af : Array Edge) (gg : Option (Nat × Bool)) :
  execOp ρ ⟨dd, .build 117 #[(0, x0), (1, x1), (2, x2), (3, x3)], t, pos, af, gg⟩ = lkB4 (ρ x0) (ρ x1) (ρ x2) (ρ x3) := by simp [execOp, lkB4]
theorem zq0b (s : Int) (k : Nat -> Int) (y : Nat -> Int) (p : Nat -> Int) (w : World) : (Instr.build 117 #[(0, .int .u32 s), (1, .agg (ints .u8 32 k)), (2, .agg (ints .u8 32 y)), (3, .agg (ints .u8 32 p))]).run Tryz.prog w = .ok (.agg (lkC s k y p)) w := by kernel_rfl
@[go_sem] theorem zrg1 (s : Int) (k : Nat -> Int) (y : Nat -> Int) (p : Nat -> Int) (w : World) : (lkB4 (.int .u32 s) (.agg (ints .u8 32 k)) (.agg (ints .u8 32 y)) (.agg (ints .u8 32 p))).run Tryz.prog w = .ok (.value (.agg (lkC s k y p))) w := by
 unfold lkB4;rw [Sem.run_bind, zq0b]
 rfl
attribute [irreducible] lkC spC lkB4
theorem zq2d (s : Int) (k y p r : Nat -> Int) (x : ByteArray) (s2 : Int) (w : World) (hx : x.size <= 100000) (hT : Tabs w) :
  Calls Tryz.prog 76 #[.agg (lkC s k y p), .int .u32 s2, .agg (ints .u8 32 r), .string x] w (Rt w (.agg (lkC s2 (zqd9 k r (zqf6 p x)) (tagF (zqd9 k r (zqf6 p x))) (zqf6 p x)))) := by
 obtain ⟨pp, hpp⟩ : ∃ pp, zqf6 p x = pp := ⟨_, rfl⟩
 obtain ⟨kk, hkk⟩ : ∃ kk, zqd9 k r pp = kk := ⟨_, rfl⟩
 obtain ⟨yy, hyy⟩ : ∃ yy, tagF kk = yy := ⟨_, rfl⟩
 rw [hpp, hkk, hyy];have c1 : ∀ (W : World), Below w.heap.size w W -> Calls Tryz.prog 104 #[.agg (ints .u8 32 p), .string x] W (Rt W (.agg (ints .u8 32 pp))) := fun W hb => by rw [<- hpp]; exact zq1v p x W hx (hT.later hb)
 have c2 : ∀ (W : World), Below w.heap.size w W -> Calls Tryz.prog 105 #[.agg (ints .u8 32 k), .agg (ints .u8 32 r), .agg (ints .u8 32 pp)] W (Rt W (.agg (ints .u8 32 kk))) := fun W hb => by rw [<- hkk]; exact zqxe k r pp W (hT.later hb)
 have c3 : ∀ (W : World), Below w.heap.size w W -> Calls Tryz.prog 106 #[.agg (ints .u8 32 kk)] W (Rt W (.agg (ints .u8 32 yy))) := fun W hb => by rw [<- hyy]; exact zq6k kk W (hT.later hb)
 clear hpp hkk hyy hT
 go_enter Tryz.func76, Tryz.ntmps76
 go_wp2_with fail;have fl : zqe ((((w).alloc (.cells (lkC s k y p) 117)).alloc (.cells (ints .u8 32 r) 29)).alloc (.cells (lkC 0 zqd zqd zqd) 117)) w.heap.size = some (.cells (lkC s k y p) 117) := zqj _ (zqj _ (zqg _ _ _ rfl));have fr : zqe ((((w).alloc (.cells (lkC s k y p) 117)).alloc (.cells (ints .u8 32 r) 29)).alloc (.cells (lkC 0 zqd zqd zqd) 117)) (w.heap.size + 1) = some (.cells (ints .u8 32 r) 29) := zqj _ (zqg _ _ _ (by simp));have fz : zqe ((((w).alloc (.cells (lkC s k y p) 117)).alloc (.cells (ints .u8 32 r) 29)).alloc (.cells (lkC 0 zqd zqd zqd) 117)) (w.heap.size + 1 + 1) = some (.cells (lkC 0 zqd zqd zqd) 117) := zqg _ _ _ (by simp)
 have hG : Below w.heap.size w ((((w).alloc (.cells (lkC s k y p) 117)).alloc (.cells (ints .u8 32 r) 29)).alloc (.cells (lkC 0 zqd zqd zqd) 117)) := Grew.alloc (Grew.alloc (Grew.alloc (Grew.refl _) _) _) _;generalize (((w).alloc (.cells (lkC s k y p) 117)).alloc (.cells (ints .u8 32 r) 29)).alloc (.cells (lkC 0 zqd zqd zqd) 117) = w1 at *;generalize hg8 : w.heap.size + 1 + 1 = g8 at *;generalize hg6 : w.heap.size + 1 = g6 at *;have hlt8 : w.heap.size <= g8 := by omega
 clear hg8 hg6;have lfl := zqa fl;have lfr := zqa fr;have lfz := zqa fz;go_wp2_with fail;refine (c1 _ hG).mono ?_
 rintro e v0 ⟨rfl, hb⟩;replace fl := zqj (.cells (ints .u8 32 pp) 29) (zqc hb fl);replace fr := zqj (.cells (ints .u8 32 pp) 29) (zqc hb fr);replace fz := zqj (.cells (ints .u8 32 pp) 29) (zqc hb fz);have fp : zqe (v0.alloc (.cells (ints .u8 32 pp) 29)) v0.heap.size = some (.cells (ints .u8 32 pp) 29) := zqg _ _ _ rfl;replace hG := Grew.alloc (Grew.trans hG hb) (.cells (ints .u8 32 pp) 29);clear hb c1 lfl lfr lfz;go_wp2_with fail;generalize v0.alloc (.cells (ints .u8 32 pp) 29) = w2 at *;generalize v0.heap.size = gb0 at *;have lfl := zqa fl;have lfr := zqa fr;have lfz := zqa fz;have lfp := zqa fp;go_wp2_with fail;refine (c2 _ hG).mono ?_
 rintro e v1 ⟨rfl, hb⟩;replace fl := zqj (.cells (ints .u8 32 kk) 29) (zqc hb fl);replace fr := zqj (.cells (ints .u8 32 kk) 29) (zqc hb fr);replace fz := zqj (.cells (ints .u8 32 kk) 29) (zqc hb fz);replace fp := zqj (.cells (ints .u8 32 kk) 29) (zqc hb fp);have fk : zqe (v1.alloc (.cells (ints .u8 32 kk) 29)) v1.heap.size = some (.cells (ints .u8 32 kk) 29) := zqg _ _ _ rfl;replace hG := Grew.alloc (Grew.trans hG hb) (.cells (ints .u8 32 kk) 29);clear hb c2 lfl lfr lfz lfp;go_wp2_with fail;generalize v1.alloc (.cells (ints .u8 32 kk) 29) = w3 at *;generalize v1.heap.size = gb1 at *;have lfl := zqa fl;have lfr := zqa fr;have lfz := zqa fz;have lfp := zqa fp;have lfk := zqa fk
 (refine zqsx 6 zqb zqb zqb zqb zqb ?_; simp only [List.take_succ_cons, List.take_zero]; (repeat (first | refine zqv rfl ?_ | (refine zqn rfl ?_; apply Exists.intro))); refine zqbt ?_; intro γ hinj hbase; (repeat (first | (refine zqx rfl ?_; (refine zAa ?_)) | ((first | refine zqm rfl (fun _ => rfl) ?_ | (refine zAf ?_) | (refine zAd ?_) | (refine zAg ?_) | (apply zqaa; (focus rfl); (focus rfl); (focus rfl); (focus (intro W hC hF; (have hbW : Below w.heap.size w W := by obtain ⟨mm, rfl⟩ := hC; exact Grew.more hG mm); go_big_quiet_want; go_big_quiet_op; (first | go_big_quiet_on | (apply Exists.intro; refine ⟨fun _ => ?_, ?_⟩; (focus ((with_reducible exact Calls.of_more (c3 _ (Grew.more hbW _))))); go_big_quiet_on)); exact wpQuiet_nil rfl)); (focus (first | exact fun _ => ⟨rfl, rfl⟩ | exact fun h => absurd h (by decide))))); (refine zAa ?_)) | refine zql rfl (fun _ => rfl) ?_ | (refine zAc ?_))))
 refine zqfr ?_
 rintro _ ⟨mq, rfl⟩ -;refine zqt (i := 6) (fuel := 0) zqb rfl ?_
 intro K hK;have fz8 := zqp mq (zqq (lkC s2 kk yy pp) fz);have hG8 := Grew.more (Grew.setRow hG g8 (lkC s2 kk yy pp) hlt8) mq;replace fz := zqp mq fz;have lz := zqa fz;replace hG := Grew.more hG mq
 go_simp
 refine hK _ _ ?_
 clear hK K;refine wpAny_done zqb ?_ _
 go_wp2;refine zqag rfl _ 117 (lkC s2 kk yy pp) (0, 0) _ rfl fz8 Tryz.underlying117 rfl (by rw [zqdq]; kernel_rfl) rfl ⟨rfl, hG8⟩
theorem zq1y (s : Int) (k y p r : Nat -> Int) (x : ByteArray) (w : World) (hx : x.size <= 100000) (hT : Tabs w) :
  Calls Tryz.prog 74 #[.agg (lkC s k y p), .agg (ints .u8 32 r), .string x] w (Rt w (.agg (lkC (IntKind.u32.wrap (s + 1)) (zqd9 k r (zqf6 p x)) (tagF (zqd9 k r (zqf6 p x))) (zqf6 p x)))) := by
 have cA := fun (W : World) (hb : Below w.heap.size w W) => zq2d s k y p r x (IntKind.u32.wrap (s + 1)) W hx (hT.later hb);obtain ⟨pp, hpp⟩ : ∃ pp, zqf6 p x = pp := ⟨_, rfl⟩
 obtain ⟨kk, hkk⟩ : ∃ kk, zqd9 k r pp = kk := ⟨_, rfl⟩
 obtain ⟨yy, hyy⟩ : ∃ yy, tagF kk = yy := ⟨_, rfl⟩
 rw [hpp, hkk, hyy] at cA ⊢;clear hpp hkk hyy hT
 go_enter Tryz.func74, Tryz.ntmps74
 go_wp2_with fail;have fl : zqe (((w.alloc (.cells (lkC s k y p) 117)).alloc (.cells (ints .u8 32 r) 29)).alloc (.cells (lkC 0 zqd zqd zqd) 117)) w.heap.size = some (.cells (lkC s k y p) 117) := zqj _ (zqj _ (zqg _ _ _ rfl));have fr : zqe (((w.alloc (.cells (lkC s k y p) 117)).alloc (.cells (ints .u8 32 r) 29)).alloc (.cells (lkC 0 zqd zqd zqd) 117)) (w.heap.size + 1) = some (.cells (ints .u8 32 r) 29) := zqj _ (zqg _ _ _ (by simp));have fz : zqe (((w.alloc (.cells (lkC s k y p) 117)).alloc (.cells (ints .u8 32 r) 29)).alloc (.cells (lkC 0 zqd zqd zqd) 117)) (w.heap.size + 1 + 1) = some (.cells (lkC 0 zqd zqd zqd) 117) := zqg _ _ _ (by simp)
 have hG : Below w.heap.size w (((w.alloc (.cells (lkC s k y p) 117)).alloc (.cells (ints .u8 32 r) 29)).alloc (.cells (lkC 0 zqd zqd zqd) 117)) := Grew.alloc (Grew.alloc (Grew.alloc (Grew.refl _) _) _) _;generalize ((w.alloc (.cells (lkC s k y p) 117)).alloc (.cells (ints .u8 32 r) 29)).alloc (.cells (lkC 0 zqd zqd zqd) 117) = w1 at *;generalize hg8 : w.heap.size + 1 + 1 = g8 at *;generalize hg6 : w.heap.size + 1 = g6 at *;have hlt8 : w.heap.size <= g8 := by omega
 clear hg8 hg6;have ll := zqa fl;have lr := zqa fr;have lz := zqa fz;go_wp2_with fail;refine (cA _ hG).mono ?_
 rintro e w2 ⟨rfl, hb⟩;replace fz := zqc hb fz;replace hG := Grew.trans hG hb;clear hb cA ll lr lz;have lz := zqa fz;go_wp2;refine zqag rfl _ 117 (lkC (IntKind.u32.wrap (s + 1)) kk yy pp) (0, 0) _ rfl (zqq _ fz) Tryz.underlying117 rfl (by rw [zqdq]; kernel_rfl) rfl ⟨rfl, Grew.setRow hG _ _ hlt8⟩
theorem zqvv (r : Nat -> Int) (x : ByteArray) (w : World) (hx : x.size <= 100000) (hT : Tabs w) :
  Calls Tryz.prog 60 #[.agg (ints .u8 32 r), .string x] w (Rt w (.agg (lkC 0 (zqd9 zqd r (zqf6 zqd x)) (tagF (zqd9 zqd r (zqf6 zqd x))) (zqf6 zqd x)))) := by
 have cA := fun (W : World) (hb : Below w.heap.size w W) => zq2d 0 zqd zqd zqd r x 0 W hx (hT.later hb);obtain ⟨pp, hpp⟩ : ∃ pp, zqf6 zqd x = pp := ⟨_, rfl⟩
 obtain ⟨kk, hkk⟩ : ∃ kk, zqd9 zqd r pp = kk := ⟨_, rfl⟩
 obtain ⟨yy, hyy⟩ : ∃ yy, tagF kk = yy := ⟨_, rfl⟩
 rw [hpp, hkk, hyy] at cA ⊢;clear hpp hkk hyy hT
 go_enter Tryz.func60, Tryz.ntmps60
 go_wp2_with fail;have fr : zqe ((w.alloc (.cells (ints .u8 32 r) 29)).alloc (.cells (lkC 0 zqd zqd zqd) 117)) w.heap.size = some (.cells (ints .u8 32 r) 29) := zqj _ (zqg _ _ _ rfl);have fz : zqe ((w.alloc (.cells (ints .u8 32 r) 29)).alloc (.cells (lkC 0 zqd zqd zqd) 117)) (w.heap.size + 1) = some (.cells (lkC 0 zqd zqd zqd) 117) := zqg _ _ _ (by simp);have hG : Below w.heap.size w ((w.alloc (.cells (ints .u8 32 r) 29)).alloc (.cells (lkC 0 zqd zqd zqd) 117)) := Grew.alloc (Grew.alloc (Grew.refl _) _) _;generalize (w.alloc (.cells (ints .u8 32 r) 29)).alloc (.cells (lkC 0 zqd zqd zqd) 117) = w1 at *;generalize hg8 : w.heap.size + 1 = g8 at *;have hlt8 : w.heap.size <= g8 := by omega
 clear hg8;have lr := zqa fr;have lz := zqa fz;go_wp2_with fail;refine (cA _ hG).mono ?_
 rintro e w2 ⟨rfl, hb⟩;replace fz := zqc hb fz;replace hG := Grew.trans hG hb;clear hb cA lr lz;have lz := zqa fz;go_wp2;refine zqag rfl _ 117 (lkC 0 kk yy pp) (0, 0) _ rfl (zqq _ fz) Tryz.underlying117 rfl (by rw [zqdq]; kernel_rfl) rfl ⟨rfl, Grew.setRow hG _ _ hlt8⟩
theorem zrd4 (s : Int) (k y p : Nat -> Int) (q : Nat) (h : q < 32) : (lkC s k y p)[33 + q]? = some (.int .u8 (y q)) := by
 unfold lkC;have h1 : ((#[Value.int .u32 s] : Array Value) ++ ints .u8 32 k).size = 33 := by simp [zqi]
 have h2 : ((#[Value.int .u32 s] : Array Value) ++ ints .u8 32 k ++ ints .u8 32 y).size = 65 := by simp [zqi]
 rw [Array.getElem?_append_left (by omega), Array.getElem?_append_right (by omega), h1, show 33 + q - 33 = q by omega, zqal _ _ _ _ h]
theorem zquj {s : Int} {k y p : Nat -> Int} {W : World} {g : Nat} {t : TypeId} {fr : Nat × Nat} (h : zqe W g = some (.cells (lkC s k y p) t fr)) : (convert 157 9 (.slice (some ⟨g, 33, none⟩) 32 32)).run Tryz.prog W = .ok (.string (strOf 32 y)) W := by
 have hg := h;unfold zqe at hg;rw [run_convert_bytes_string _ _ _ _ _ _ _ Tryz.underlying157 Tryz.underlying5 Tryz.underlying9];unfold strOf;refine run_bytesToString _ _ _ _ ((List.range 32).map y) ?_
 have h2 := run_loadCells_list (P := Tryz.prog) W ⟨g, 33, none⟩ (((List.range 32).map y).map (Value.int .u8)) (fun j u hu => by
  have hj : j < 32 := by
   rcases Nat.lt_or_ge j 32 with h | h
   ·exact h
   ·rw [List.getElem?_eq_none (by simpa using h)] at hu; cases hu
  have hadd : (⟨g, 33, none⟩ : Addr).add j = ⟨g, 33 + j, none⟩ := by unfold Addr.add; split <;> simp_all
  rw [hadd, cell_of_row W g (33 + j) _ _ _ hg];rw [List.map_map, List.getElem?_map, List.getElem?_range hj] at hu;rw [<- hu, zrd4 _ _ _ _ _ hj]
  rfl)
 simpa using h2
theorem zq2e (s : Int) (k y p : Nat -> Int) (x : ByteArray) (w : World) (hx : x.size <= 100000) (hT : Tabs w) :
  Calls Tryz.prog 62 #[.agg (lkC s k y p), .string x] w (Rt w (.agg (ints .u8 32 (macF (strOf 32 y) x)))) := by
 have hz : (strOf 32 y).size = 32 := zq5 _ _;have cM := fun (g : Nat) (W : World) (h : StrsAt W (some ⟨g, 0, none⟩) 1 (oneS x)) (hb : Below w.heap.size w W) => zq0y (strOf 32 y) x g W (by omega) (by omega) h (hT.later hb);have hcv := fun (W : World) (g : Nat) (h : zqe W g = some (.cells (lkC s k y p) 117)) => zquj h;generalize macF (strOf 32 y) x = M at *;generalize strOf 32 y = Y at *;clear hT hz
 go_enter Tryz.func62, Tryz.ntmps62
 go_wp2_with fail;have fl : zqe ((w.alloc (.cells (lkC s k y p) 117)).alloc (.cells (ints .u8 32 zqd) 29)) w.heap.size = some (.cells (lkC s k y p) 117) := zqj _ (zqg _ _ _ rfl);have fz : zqe ((w.alloc (.cells (lkC s k y p) 117)).alloc (.cells (ints .u8 32 zqd) 29)) (w.heap.size + 1) = some (.cells (ints .u8 32 zqd) 29) := zqg _ _ _ (by simp);have hG : Below w.heap.size w ((w.alloc (.cells (lkC s k y p) 117)).alloc (.cells (ints .u8 32 zqd) 29)) := Grew.alloc (Grew.alloc (Grew.refl _) _) _;have hsz : Hid (((w.alloc (.cells (lkC s k y p) 117)).alloc (.cells (ints .u8 32 zqd) 29)).heap.size = w.heap.size + 1 + 1) := by show _ = _; simp
 generalize (w.alloc (.cells (lkC s k y p) 117)).alloc (.cells (ints .u8 32 zqd) 29) = w1 at *;generalize hg8 : w.heap.size + 1 = g8 at *;have hlt8 : w.heap.size <= g8 := by omega
 clear hg8;have ll := zqa fl;have lz := zqa fz;have hc := hcv _ _ fl;clear hcv;go_wp2_with fail;have fx : zqe (w1.alloc (.cells #[.string x] 9)) (g8 + 1) = some (.cells #[.string x] 9) := zqg _ _ _ hsz.out.symm;replace fz := zqj (.cells #[.string x] 9) fz;replace hG := Grew.alloc hG (.cells #[.string x] 9);refine (cM _ _ (zqg0 fx) hG).mono ?_
 rintro e w2 ⟨rfl, hb⟩;replace fz := zqc hb fz;replace hG := Grew.trans hG hb;clear hb cM fl ll lz hc fx;have lz := zqa fz;go_wp2;refine zqag rfl _ 29 (ints .u8 32 M) (0, 0) _ rfl (zqq _ fz) Tryz.underlying29 rfl (by rw [zqi]; kernel_rfl) rfl ⟨rfl, Grew.setRow hG _ _ hlt8⟩
theorem zqsw (s : Int) (k y p tg : Nat -> Int) (x : ByteArray) (w : World) (hx : x.size <= 100000) (ht : Bytes 32 tg) (hT : Tabs w) :
  Calls Tryz.prog 61 #[.agg (lkC s k y p), .string x, .agg (ints .u8 32 tg)] w (Rt w (.bool (same 32 tg (macF (strOf 32 y) x)))) := by
 have hz : (strOf 32 y).size = 32 := zq5 _ _;have hTT : Hid (Tabs w) := hT;have cM : ∀ (g : Nat) (W : World), StrsAt W (some ⟨g, 0, none⟩) 1 (oneS x) -> Tabs W -> Calls Tryz.prog 77 #[.string (strOf 32 y), .agg (ints .u8 32 tg), .slice (some ⟨g, 0, none⟩) 1 1] W (Rt W (.bool (same 32 tg (macF (strOf 32 y) x)))) := fun g W h hT2 => by
  have := check_any (strOf 32 y) tg (some ⟨g, 0, none⟩) 1 1 (oneS x) W ht (by omega) (by rw [zqfc]; omega) (by decide) h hT2;rw [zqfc] at this;exact this
 generalize same 32 tg (macF (strOf 32 y) x) = B at *;have hcv := fun (W : World) (g : Nat) (h : zqe W g = some (.cells (lkC s k y p) 117)) => zquj h;generalize strOf 32 y = Y at *;clear hT hz
 go_enter Tryz.func61, Tryz.ntmps61
 go_wp2_with fail;have fl : zqe ((w.alloc (.cells (lkC s k y p) 117)).alloc (.cells (ints .u8 32 tg) 29)) w.heap.size = some (.cells (lkC s k y p) 117) := zqj _ (zqg _ _ _ rfl);have fr : zqe ((w.alloc (.cells (lkC s k y p) 117)).alloc (.cells (ints .u8 32 tg) 29)) (w.heap.size + 1) = some (.cells (ints .u8 32 tg) 29) := zqg _ _ _ (by simp);have hG : Below w.heap.size w ((w.alloc (.cells (lkC s k y p) 117)).alloc (.cells (ints .u8 32 tg) 29)) := Grew.alloc (Grew.alloc (Grew.refl _) _) _;generalize (w.alloc (.cells (lkC s k y p) 117)).alloc (.cells (ints .u8 32 tg) 29) = w1 at *;generalize w.heap.size + 1 = gr at *;have ll := zqa fl;have lr := zqa fr;have hc := fun m : More => hcv (more w1 m) _ (zqp m fl);clear hcv
 (refine zqhj zqb zqb ?_; (repeat (first | refine zqv rfl ?_ | (refine zqn rfl ?_; apply Exists.intro))); refine zqbt ?_; intro γ hinj hbase; (repeat (first | (refine zqx rfl ?_; (refine zAa ?_)) | ((first | refine zqm rfl (fun _ => rfl) ?_ | (refine zAf ?_) | (refine zAd ?_) | ((try simp only [Nat.zero_add, Nat.reduceAdd]); apply zqbj zqy; (focus rfl); (focus (intro W; simp only [List.map_toArray, List.map_cons, List.map_nil]; first | (with_reducible exact zqlp _ W) | exact zqlp _ W)); (focus (exact zq7))) | (apply zqaa; (focus rfl); (focus rfl); (focus rfl); (focus (intro W hC hF; (have hGW : Below w.heap.size w W := (by obtain ⟨m, rfl⟩ := hC; exact Grew.more hG m); try (have hE : StrsAt W (some ⟨γ 5, 0, none⟩) 1 (oneS x) := zqg0 (known hF (List.mem_cons_self ..) (by decide +kernel)))); go_big_quiet_want; go_big_quiet_op; (first | go_big_quiet_on | (apply Exists.intro; refine ⟨fun _ => ?_, ?_⟩; (focus ((with_reducible exact Calls.of_more (cM _ _ (hE.later (zqo W _)) (hTT.out.later (Grew.trans hGW (zqo W _))))))); go_big_quiet_on)); exact wpQuiet_nil rfl)); (focus (first | exact fun _ => ⟨rfl, rfl⟩ | exact fun h => absurd h (by decide))))); (refine zAa ?_)) | refine zql rfl (fun _ => rfl) ?_ | (refine zAc ?_))))
 (refine zqce ?_; rintro _ ⟨mq, rfl⟩ hF; simp only [List.forall_mem_cons] at hF; obtain - := hF)
 go_wp2;go_ret;exact ⟨rfl, Grew.more hG _⟩
def celL (C : Nat -> Array Value) : Nat -> List Value
 | 0 => []
 | n + 1 => celL C n ++ (C n).toList
theorem zqkp {z : Nat} {C : Nat -> Array Value} (hC : ∀ j, (C j).size = z) : ∀ n, (celL C n).length = n * z
 | 0 => by rw [Nat.zero_mul]; rfl
 | n + 1 => by
  show (celL C n ++ _).length = _
  rw [List.length_append, zqkp hC n, Array.length_toList, hC, Nat.succ_mul]
theorem zqu2 {z : Nat} {C : Nat -> Array Value} (hC : ∀ j, (C j).size = z) (j i : Nat) (hi : i < z) : ∀ n, j < n -> (celL C n)[j * z + i]? = (C j)[i]?
 | 0, h => absurd h (Nat.not_lt_zero _)
 | n + 1, h => by
  show (celL C n ++ _)[_]? = _
  by_cases hj : j < n
  ·have h1 : (j + 1) * z <= n * z := Nat.mul_le_mul_right _ hj
   rw [Nat.succ_mul] at h1;rw [List.getElem?_append_left (by rw [zqkp hC]; omega)];exact zqu2 hC j i hi n hj
  ·obtain rfl : j = n := by omega
   rw [List.getElem?_append_right (by rw [zqkp hC]; omega), zqkp hC, show j * z + i - j * z = i by omega, Array.getElem?_toList]
def CAt (z : Nat) (w : World) (oa : Option Addr) (n : Nat) (C : Nat -> Array Value) : Prop :=
 n = 0 \/ ∃ ad : Addr, oa = some ad /\ ad.block < w.heap.size /\ ∀ j, j < n -> ∀ i, i < z -> w.cell? ((ad.add (j * z)).add i) = (C j)[i]?
theorem CAt.blk {z : Nat} {w : World} {oa : Option Addr} {n : Nat} {C : Nat -> Array Value} (h : CAt z w oa n C) (hn : 0 < n) : ∃ ad, oa = some ad /\ ad.block < w.heap.size := by
 rcases h with h | ⟨ad, ho, hl, _⟩
 ·omega
 ·exact ⟨ad, ho, hl⟩
theorem CAt.later {z : Nat} {w w' : World} {oa : Option Addr} {n : Nat} {C : Nat -> Array Value} (h : CAt z w oa n C) (hb : Below w.heap.size w w') : CAt z w' oa n C := by
 rcases h with h | ⟨ad, ho, hl, hc⟩
 ·exact .inl h
 ·refine .inr ⟨ad, ho, Nat.lt_of_lt_of_le hl hb.size, fun j hj i hi => ?_⟩
  rw [hb.cell (by rw [zqeo, zqeo]; exact hl)];exact hc j hj i hi
theorem CAt.congr {z : Nat} {w : World} {oa : Option Addr} {n m : Nat} {C D : Nat -> Array Value} (h : CAt z w oa n C) (hm : m <= n) (e : ∀ j, j < m -> C j = D j) : CAt z w oa m D := by
 rcases h with h | ⟨ad, ho, hl, hc⟩
 ·exact .inl (by omega)
 ·refine .inr ⟨ad, ho, hl, fun j hj i hi => ?_⟩
  rw [<- e j hj];exact hc j (by omega) i hi
theorem CAt.rest {z : Nat} {w : World} {ad : Addr} {n k : Nat} {C : Nat -> Array Value} (h : CAt z w (some ad) n C) (hk : k <= n) : CAt z w (some (ad.add (k * z))) (n - k) (fun j => C (k + j)) := by
 rcases h with h | ⟨ad', ho, hl, hc⟩
 ·exact .inl (by omega)
 ·cases ho
  refine .inr ⟨_, rfl, by rw [zqeo]; exact hl, fun j hj i hi => ?_⟩;have e : (ad.add (k * z)).add (j * z) = ad.add ((k + j) * z) := by rw [Go.Deep.add_add, Nat.add_mul]
  rw [e];exact hc (k + j) (by omega) i hi
theorem zqyz {w : World} {base g z : Nat} {t : TypeId} {C : Nat -> Array Value} (hz : (C 0).size = z) (h : zqe w g = some (.cells (C 0) t)) (hb : base <= g) : w.ownsRow base t z (.slice (some ⟨g, 0, none⟩) 1 1) 1 (celL C 1) := by
 have e : celL C 1 = (C 0).toList := List.nil_append _;rw [e];exact zrcc h hb (by rw [hz, Nat.one_mul]) (by decide)
theorem zqv5 {z : Nat} {w : World} {base n : Nat} {v : Value} {C : Nat -> Array Value} {t : TypeId} (hC : ∀ j, (C j).size = z) (h : w.ownsRow base t z v n (celL C n)) (hn : 0 < n) : ∃ g c, v = .slice (some ⟨g, 0, none⟩) n c /\ n <= c /\ CAt z w (some ⟨g, 0, none⟩) n C /\ base <= g /\ g < w.heap.size := by
 rcases h.2 with ⟨rfl, h0⟩ | ⟨g, cap, cur, rfl, hb, hg, hnc, hcm, hcs, htake⟩
 ·omega
 ·refine ⟨g, _, rfl, hnc, .inr ⟨_, rfl, zqa hg, fun j hj i hi => ?_⟩, hb, zqa hg⟩
  have e1 : ((⟨g, 0, none⟩ : Addr).add (j * z)).add i = ⟨g, j * z + i, none⟩ := by
   rw [Go.Deep.add_add];unfold Addr.add
   split <;> simp_all
  have h1 : (j + 1) * z <= n * z := Nat.mul_le_mul_right _ hj;rw [Nat.succ_mul] at h1;rw [e1, cell_of_row w g (j * z + i) _ _ _ hg, <- zqu2 hC j i hi n hj, <- htake, List.getElem?_take, if_pos (by omega), Array.getElem?_toList]
def paF (x : ByteArray) (X : Nat -> ByteArray) : Nat -> Nat -> Int
 | 0 => zqf6 zqd x
 | j + 1 => zqf6 (paF x X j) (X j)
def keF (r : Nat -> Int) (x : ByteArray) (R : Nat -> Nat -> Int) (X : Nat -> ByteArray) : Nat -> Nat -> Int
 | 0 => zqd9 zqd r (paF x X 0)
 | j + 1 => zqd9 (keF r x R X j) (R j) (paF x X (j + 1))
def lkN (r : Nat -> Int) (x : ByteArray) (R : Nat -> Nat -> Int) (X : Nat -> ByteArray) (j : Nat) : Array Value := lkC (j : Int) (keF r x R X j) (tagF (keF r x R X j)) (paF x X j)
theorem zql0 (r : Nat -> Int) (x : ByteArray) (R : Nat -> Nat -> Int) (X : Nat -> ByteArray) : ∀ j, (lkN r x R X j).size = 97 := fun j => zqdq _ _ _ _
theorem zq6x (r : Nat -> Int) (x : ByteArray) (R : Nat -> Nat -> Int) (X : Nat -> ByteArray) : ∀ j, zqa0 (lkN r x R X j) = true := fun j => zqyy _ _ _ _
@[go_sem] theorem zq47 (r : Nat -> Int) (x : ByteArray) (R : Nat -> Nat -> Int) (X : Nat -> ByteArray) (j : Nat) : (lkN r x R X j).size = 97 := zqdq _ _ _ _
@[go_sem] theorem zrls (r : Nat -> Int) (x : ByteArray) (R : Nat -> Nat -> Int) (X : Nat -> ByteArray) (j : Nat) : zqa0 (lkN r x R X j) = true := zqyy _ _ _ _
@[go_sem] theorem zrjl (r : Nat -> Int) (x : ByteArray) (R : Nat -> Nat -> Int) (X : Nat -> ByteArray) (j : Nat) : (lkN r x R X j)[0]? = some (.int .u32 (j : Int)) := zrf7 _ _ _ _
@[go_sem] theorem zrl4 (r : Nat -> Int) (x : ByteArray) (R : Nat -> Nat -> Int) (X : Nat -> ByteArray) (j : Nat) (h : 0 < (lkN r x R X j).size) : (lkN r x R X j)[0] = .int .u32 (j : Int) := Option.some.inj ((Array.getElem?_eq_getElem h).symm.trans (zrjl r x R X j))
theorem zqjg (k : Nat -> Int) (w : World) : (Op.equalIn 9999 29 (.agg (ints .u8 32 k)) (.agg (ints .u8 32 k))).run Tryz.prog w = .ok true w := by
 obtain ⟨i, hi, hs⟩ : ∃ i, Tryz.prog.info? 5 = some i /\ i.size = 1 := ⟨(Tryz.prog.info? 5).get zqb, by kernel_rfl, by kernel_rfl⟩
 have hc : Tryz.prog.cellsOf 5 = 1 := by simp [Program.cellsOf, hi, hs]
 have hr := zqdv 32 k;unfold same at hr;rw [show (9999 : Nat) = 9997 + 1 + 1 from rfl, run_equalIn_array w (9997 + 1) _ _ Tryz.underlying29 hi, zqir w 9997 5 .u8 32 k k Tryz.underlying5 hc (List.range 32) (by simp)]
 first | rw [hr] | simp
theorem zqz8 (s : Int) (k y p : Nat -> Int) (w : World) : (binOp .eql 117 (.agg (lkC s k y p)) (.agg (lkC s k y p))).run Tryz.prog w = .ok (.bool true) w := by
 have h : ∀ c : Int, (c == c) = true := fun c => by simp
 have e1 := zqks s k y p;have e2 := zqh2 s k y p;have e3 := zqh6 s k y p;have q1 := zqn1 k w;have q2 := zqn1 y w;have q3 := zqn1 p w;have p1 := zqjg k w;have p2 := zqjg y w;have p3 := zqjg p w
 simp [go_sem, h, e1, e2, e3, q1, q2, q3, p1, p2, p3]
@[go_sem ↓ high] theorem zrgz (r : Nat -> Int) (x : ByteArray) (R : Nat -> Nat -> Int) (X : Nat -> ByteArray) (j : Nat) (w : World) : (binOp .eql 117 (.agg (lkN r x R X j)) (.agg (lkN r x R X j))).run Tryz.prog w = .ok (.bool true) w := zqz8 _ _ _ _ w
theorem zq23 (s : Int) (k y p : Nat -> Int) (w : World) : (binOp .neq 117 (.agg (lkC s k y p)) (.agg (lkC s k y p))).run Tryz.prog w = .ok (.bool false) w := by
 have h : ∀ c : Int, (c == c) = true := fun c => by simp
 have e1 := zqks s k y p;have e2 := zqh2 s k y p;have e3 := zqh6 s k y p;have q1 := zqn1 k w;have q2 := zqn1 y w;have q3 := zqn1 p w;have p1 := zqjg k w;have p2 := zqjg y w;have p3 := zqjg p w
 simp [go_sem, h, e1, e2, e3, q1, q2, q3, p1, p2, p3]
@[go_sem ↓ high] theorem zrg3 (r : Nat -> Int) (x : ByteArray) (R : Nat -> Nat -> Int) (X : Nat -> ByteArray) (j : Nat) (w : World) : (binOp .neq 117 (.agg (lkN r x R X j)) (.agg (lkN r x R X j))).run Tryz.prog w = .ok (.bool false) w := zq23 _ _ _ _ w
theorem CAt.load_link {w : World} {ad : Addr} {n : Nat} {C : Nat -> Array Value} (hC : ∀ j, (C j).size = 97) (h : CAt 97 w (some ad) n C) {j : Nat} (hj : j < n) : (zqah 117 (.pointer (some (ad.add (j * 97))))).run Tryz.prog w = .ok (.value (.agg (C j))) w := by
 rcases h with h | ⟨ad', ho, hl, hc⟩
 ·omega
 ·cases ho
  exact zqcm Tryz.underlying117 rfl zqb w _ _ (hC j) (hc j hj)
theorem CAt.load_cstep {w : World} {ad : Addr} {n : Nat} {C : Nat -> Array Value} (hC : ∀ j, (C j).size = 33) (h : CAt 33 w (some ad) n C) {j : Nat} (hj : j < n) : (zqah 154 (.pointer (some (ad.add (j * 33))))).run Tryz.prog w = .ok (.value (.agg (C j))) w := by
 rcases h with h | ⟨ad', ho, hl, hc⟩
 ·omega
 ·cases ho
  exact zqcm Tryz.underlying154 rfl zqb w _ _ (hC j) (hc j hj)
theorem zqty (s : Int) (k y p : Nat -> Int) (W : World) : (Instr.buildSlice 114 1 #[(0, .agg (lkC s k y p))]).run Tryz.prog W = .ok (.slice (some ⟨W.heap.size, 0, none⟩) 1 1) (W.alloc (.cells (lkC s k y p) 117)) := by kernel_rfl
def zqnh (v : Value) : Sem Next := do pure (.value (<- Instr.buildSlice 114 1 #[(0, v)]))
@[go_sem ↓ high] theorem zq28 (ρ : Operand -> Value) (d : Option Tmp) (x : Operand) (t : TypeId) (pos : String) (af : Array Edge) (g : Option (Nat × Bool)) :
  execOp ρ ⟨d, .buildSlice 114 1 #[(0, x)], t, pos, af, g⟩ = zqnh (ρ x) := by
 unfold execOp zqnh
 simp
@[go_sem high] theorem zrco (ρ : Operand -> Value) (d : Option Tmp) (x : Operand) (t : TypeId) (pos : String) (af : Array Edge) (g : Option (Nat × Bool)) :
  execOp ρ ⟨d, .buildSlice 114 1 #[(0, x)], t, pos, af, g⟩ = zqnh (ρ x) := zq28 ρ d x t pos af g
@[go_sem] theorem zrc4 (r : Nat -> Int) (x : ByteArray) (R : Nat -> Nat -> Int) (X : Nat -> ByteArray) (j : Nat) (W : World) : (zqnh (.agg (lkN r x R X j))).run Tryz.prog W = .ok (.value (.slice (some ⟨W.heap.size, 0, none⟩) 1 1)) (W.alloc (.cells (lkN r x R X j) 117)) := by
 unfold zqnh lkN
 simp only [Sem.run_bind, zqty, Result.andThen_ok, Sem.run_pure]
@[go_sem ↓ high] theorem zq7n (ty : TypeId) (cs : Array Bool) (args : Array Value) : builtin .append #[114, 114] ty cs args = zqr #[114, 114] ty args := by unfold zqr; rfl
theorem zqsu (w W : World) (base : Nat) (v : Value) (n : Nat) (C : Nat -> Array Value) (g2 : Nat) (t2 : TypeId) (fr : Nat × Nat) (hC : ∀ j, (C j).size = 97) (hO : ∀ j, zqa0 (C j) = true) (own : W.ownsRow base 117 97 v n (celL C n)) (hn : n <= 1048576)
  (hg2 : zqe W g2 = some (.cells (C n) t2 fr)) (hG : Below w.heap.size w W) (hwb : w.heap.size <= base) (hbW : base <= W.heap.size) :
  ∃ g cap w', (zqr #[114, 114] 114 #[v, .slice (some ⟨g2, 0, none⟩) 1 1]).run Tryz.prog W = .ok (.value (.slice (some ⟨g, 0, none⟩) (n + 1) cap)) w' /\ w'.ownsRow base 117 97 (.slice (some ⟨g, 0, none⟩) (n + 1) cap) (n + 1) (celL C (n + 1)) /\
   Below w.heap.size w w' /\ (∀ m o, m < base -> zqe W m = some o -> zqe w' m = some o) := by
 obtain ⟨g, cap, w', hr, ho, hb, hk, _⟩ := zqf8 (i := (Tryz.prog.info? 117).get zqb) (z := ((Tryz.prog.info? 117).get zqb).zero.get zqb) 97 100 Tryz.underlying114 zqb zqb zqb zqb zqb (by decide) (by decide) 114 w W base v n (celL C n) ⟨g2, 0, none⟩ 1 1 (C n).toList own (by omega) (by decide) (by rw [Array.length_toList, hC])
  (fun j u hu => by
   rw [Array.getElem?_toList] at hu;have hadd : (⟨g2, 0, none⟩ : Addr).add j = ⟨g2, j, none⟩ := by unfold Addr.add; split <;> simp_all
   rw [hadd, cell_of_row W g2 j _ _ _ hg2];exact hu)
  (fun u hu => by
   have h1 := hO n;unfold zqa0 at h1;rw [Array.all_eq_true'] at h1;exact h1 u (by simpa using hu)) hG hwb hbW
 exact ⟨g, cap, w', hr, ho, hb, hk⟩
attribute [irreducible] zqnh
theorem zq6f (j : Nat) (h : j < 4294967295) : IntKind.u32.wrap ((j : Int) + 1) = ((j + 1 : Nat) : Int) := by rw [IntKind.wrap_u32]; omega
theorem zquv (r : Nat -> Int) (x : ByteArray) (R : Nat -> Nat -> Int) (X : Nat -> ByteArray) (w : World) (hx : x.size <= 100000) (hT : Tabs w) :
  Calls Tryz.prog 60 #[.agg (ints .u8 32 r), .string x] w (Rt w (.agg (lkN r x R X 0))) := zqvv r x w hx hT
theorem zq8z (r : Nat -> Int) (x : ByteArray) (R : Nat -> Nat -> Int) (X : Nat -> ByteArray) (j : Nat) (w : World) (hx : (X j).size <= 100000) (hj : j < 100000) (hT : Tabs w) :
  Calls Tryz.prog 74 #[.agg (lkN r x R X j), .agg (ints .u8 32 (R j)), .string (X j)] w (Rt w (.agg (lkN r x R X (j + 1)))) := by
 have h := zq1y (j : Int) (keF r x R X j) (tagF (keF r x R X j)) (paF x X j) (R j) (X j) w hx hT;rw [zq6f j (by omega)] at h;exact h
attribute [irreducible] lkN
theorem zq88 (r : Nat -> Int) (x : ByteArray) (oa : Option Addr) (n c : Nat) (R : Nat -> Nat -> Int) (X : Nat -> ByteArray) (w : World) (hx : x.size <= 100000) (hn : n <= 1000) (hX : ∀ j, j < n -> (X j).size <= 100000) (hS : CAt 33 w oa n (fun j => spC (R j) (X j))) (hT : Tabs w) :
  Calls Tryz.prog 58 #[.agg (ints .u8 32 r), .string x, .slice oa n c] w fun e w' => ∃ ad c2, e = .returned (.slice (some ad) (n + 1) c2) /\ n + 1 <= c2 /\ CAt 97 w' (some ad) (n + 1) (lkN r x R X) /\ Below w.heap.size w w' := by
 have HS : Hid (CAt 33 w oa n (fun j => spC (R j) (X j))) := hS;have cN := fun (j : Nat) (hj : j < n) (W : World) (hb : Below w.heap.size w W) => zq8z r x R X j W (hX j hj) (by omega) (hT.later hb);have cF := fun (W : World) (hb : Below w.heap.size w W) => zquv r x R X W hx (hT.later hb);clear hS hX hT
 go_enter Tryz.func58, Tryz.ntmps58
 go_wp2_with fail;have hG : Below w.heap.size w (w.alloc (.cells (ints .u8 32 r) 29)) := Grew.alloc (Grew.refl _) _;refine (cF _ hG).mono ?_
 rintro e w2 ⟨rfl, hb⟩;replace hG := Grew.trans hG hb;clear hb cF;go_wp2_with fail;have fl : zqe ((w2.alloc (.cells (lkN r x R X 0) 117)).alloc (.cells (lkN r x R X 0) 117)) w2.heap.size = some (.cells (lkN r x R X 0) 117) := zqj _ (zqg _ _ _ rfl);have fo : zqe ((w2.alloc (.cells (lkN r x R X 0) 117)).alloc (.cells (lkN r x R X 0) 117)) (w2.heap.size + 1) = some (.cells (lkN r x R X 0) 117) := zqg _ _ _ (by simp);have hlt0 : w.heap.size <= w2.heap.size := hG.size;have OWN : Hid (((w2.alloc (.cells (lkN r x R X 0) 117)).alloc (.cells (lkN r x R X 0) 117)).ownsRow (w2.heap.size + 1) 117 97 (.slice (some ⟨w2.heap.size + 1, 0, none⟩) 1 1) 1 (celL (lkN r x R X) 1)) := zqyz (C := lkN r x R X) (zq47 _ _ _ _ _) fo (Nat.le_refl _);replace hG := Grew.alloc (Grew.alloc hG (.cells (lkN r x R X 0) 117)) (.cells (lkN r x R X 0) 117);clear fo
 generalize (w2.alloc (.cells (lkN r x R X 0) 117)).alloc (.cells (lkN r x R X 0) 117) = w3 at *;generalize w2.heap.size = gl at *;have lfl := zqa fl
 go_loopw [18, 8, 10] (fun i v _ wr => ∃ (k : Nat) (v0 : Value), v0 = v /\ k <= n /\ i = .int .i64 k /\ zqe wr gl = some (.cells (lkN r x R X k) 117) /\ Below w.heap.size w wr /\ Hid (wr.ownsRow (gl + 1) 117 97 v0 (k + 1) (celL (lkN r x R X) (k + 1)))) (fun i _ _ _ => n - (intOf i).toNat)
 case atStart => exact ⟨0, _, rfl, by omega, rfl, fl, hG, OWN⟩
 case round =>
  clear hG fl lfl OWN;obtain ⟨k, v0, rfl, hk, rfl, fl, hG, OWN⟩ := hrel;have lfl := zqa fl
  by_cases hlt : k < n
  ·have hi1 : (k : Int) < (n : Int) := by omega
   have hi0 : (0 : Int) <= (k : Int) := by omega
   obtain ⟨ad, rfl, -⟩ := HS.out.blk (by omega);have hl : (zqah 154 (.pointer (some (ad.add (k * 33))))).run Tryz.prog wr = .ok (.value (.agg (spC (R k) (X k)))) wr := (HS.out.later hG).load_cstep (fun j => zqvj _ _) hlt;have cN1 := cN k hlt;have hGa := Grew.alloc hG (.cells (spC (R k) (X k)) 154);have fl1 := zqj (.cells (spC (R k) (X k)) 154) fl;have OWN1 := World.ownsRow.alloc OWN.out (.cells (spC (R k) (X k)) 154);go_wp2_with fail;refine (cN1 _ hGa).mono ?_
   rintro e w4 ⟨rfl, hb⟩;have fl2 := zqc hb fl1;have lfl2 := zqa fl2;have OWN2 := zqj0 (zqey OWN1 hb) (Nat.lt_succ_self gl) (cs := lkN r x R X (k + 1));have OWN3 := World.ownsRow.alloc OWN2 (.cells (lkN r x R X (k + 1)) 117);have hG4 := Grew.alloc (Grew.setRow (Grew.trans hGa hb) gl (lkN r x R X (k + 1)) hlt0) (.cells (lkN r x R X (k + 1)) 117);have fl3 := zqj (.cells (lkN r x R X (k + 1)) 117) (zqq (lkN r x R X (k + 1)) fl2);have hs4 : gl + 1 <= (w4.setRow gl (lkN r x R X (k + 1))).heap.size := by rw [zq0]; omega
   obtain ⟨g3, c3, w7, hr3, own7, hb7, hk7⟩ := zqsu w ((w4.setRow gl (lkN r x R X (k + 1))).alloc (.cells (lkN r x R X (k + 1)) 117)) (gl + 1) _ (k + 1) (lkN r x R X) w4.heap.size _ _ (zql0 r x R X) (zq6x r x R X) OWN3 (by omega) (zqg _ _ _ (by rw [zq0])) hG4 (by omega) (Nat.le_trans hs4 (by simp));have fl7 := hk7 gl _ (Nat.lt_succ_self gl) fl3;have OWN7 := hid1 own7;clear own7 hk7 OWN3 OWN2 OWN1 OWN hl hGa fl1 fl cN1 hG4 fl3 hs4 hb;go_wp2
   go_roundw
   case rel => first | exact ⟨k + 1, _, rfl, by omega, by go_num, fl7, hb7, OWN7⟩ | ((repeat' apply Exists.intro) <;> first | exact ⟨⟨k + 1, _, rfl, by omega, by go_num, fl7, hb7, OWN7⟩, rfl⟩ | exact undef)
   case measure => (simp [intOf]; omega)
  ·obtain rfl : k = n := by omega
   have hi1 : ¬ ((k : Int) < (k : Int)) := by omega
   obtain ⟨g, c2, rfl, hc2, hC, hgb, -⟩ := zqv5 (zql0 r x R X) OWN.out (Nat.succ_pos k);have HC := hid1 hC;clear OWN hC;go_wp2;go_ret
   first | exact ⟨_, _, rfl, hc2, HC.out, hG⟩ | exact ⟨_, ⟨_, rfl⟩, hc2, HC.out, hG⟩
theorem CAt.load0_link {w : World} {ad : Addr} {n : Nat} {C : Nat -> Array Value} (hC : ∀ j, (C j).size = 97) (h : CAt 97 w (some ad) n C) (hj : 0 < n) : (zqah 117 (.pointer (some ad))).run Tryz.prog w = .ok (.value (.agg (C 0))) w := by
 have h1 := h.load_link hC hj;rw [Nat.zero_mul] at h1;have e : ad.add 0 = ad := by unfold Addr.add; split <;> simp_all
 rwa [e] at h1
def sgF (r : Nat -> Int) (x : ByteArray) (R : Nat -> Nat -> Int) (X : Nat -> ByteArray) (j : Nat) (b : ByteArray) : Nat -> Int := macF (strOf 32 (tagF (keF r x R X j))) b
theorem zra5 (r : Nat -> Int) (x : ByteArray) (R : Nat -> Nat -> Int) (X : Nat -> ByteArray) (j : Nat) (b : ByteArray) (w : World) (hb : b.size <= 100000) (hT : Tabs w) :
  Calls Tryz.prog 62 #[.agg (lkN r x R X j), .string b] w (Rt w (.agg (ints .u8 32 (sgF r x R X j b)))) := by
 unfold lkN sgF;exact zq2e _ _ _ _ _ _ hb hT
theorem zq1n (r : Nat -> Int) (x : ByteArray) (R : Nat -> Nat -> Int) (X : Nat -> ByteArray) (j : Nat) (b : ByteArray) (w : World) (hb : b.size <= 100000) (hT : Tabs w) :
  Calls Tryz.prog 61 #[.agg (lkN r x R X j), .string b, .agg (ints .u8 32 (sgF r x R X j b))] w (Rt w (.bool true)) := by
 have h := zqsw (j : Int) (keF r x R X j) (tagF (keF r x R X j)) (paF x X j) (sgF r x R X j b) b w hb (zqis _ _) hT;have e : same 32 (sgF r x R X j b) (macF (strOf 32 (tagF (keF r x R X j))) b) = true := zqdv 32 _;rw [e] at h;unfold lkN;exact h
attribute [irreducible] sgF
theorem zqsd (aw : ∀ (w : World), Tabs w -> EtAt w -> Calls Tryz.prog 75 #[] w (Rt w (.bool true))) (w : World) (hT : Tabs w) (hE : EtAt w) :
  Calls Tryz.prog 59 #[] w (Rt w (.bool true)) := by
 go_enter Tryz.func59, Tryz.ntmps59
 go_wp2_with fail;refine (aw _ hT hE).mono ?_
 rintro e w2 ⟨rfl, hb⟩;go_wp2;go_ret;exact ⟨rfl, hb⟩
theorem zqtk (aw : ∀ (w : World), Tabs w -> EtAt w -> Calls Tryz.prog 59 #[] w (Rt w (.bool true))) (w : World) (hT : Tabs w) (hE : EtAt w) :
  Calls Tryz.prog 42 #[] w (Rt w (.bool true)) := by
 have HE : Hid (EtAt w) := hE;have HT : Hid (Tabs w) := hT;have cA : Calls Tryz.prog 58 #[.agg (ints .u8 32 (upd zqd 0 1)), .string ⟨#[120]⟩, .slice none 0 0] w fun e w' => ∃ ad c2, e = .returned (.slice (some ad) 1 c2) /\ 1 <= c2 /\ CAt 97 w' (some ad) 1 (lkN (upd zqd 0 1) ⟨#[120]⟩ (fun _ _ => 0) (fun _ => ⟨#[]⟩)) /\ Below w.heap.size w w' := zq88 (upd zqd 0 1) ⟨#[120]⟩ none 0 0 (fun _ _ => 0) (fun _ => ⟨#[]⟩) w (by decide) (by decide) (fun j hj => by omega) (.inl rfl) hT;have cF := fun (W : World) (hb : Below w.heap.size w W) => zquv (upd zqd 0 1) ⟨#[120]⟩ (fun _ _ => 0) (fun _ => ⟨#[]⟩) W (by decide) (HT.out.later hb);have cS := fun (W : World) (hb : Below w.heap.size w W) => zra5 (upd zqd 0 1) ⟨#[120]⟩ (fun _ _ => 0) (fun _ => ⟨#[]⟩) 0 ⟨#[121]⟩ W (by decide) (HT.out.later hb)
 have cV := fun (W : World) (hb : Below w.heap.size w W) => zq1n (upd zqd 0 1) ⟨#[120]⟩ (fun _ _ => 0) (fun _ => ⟨#[]⟩) 0 ⟨#[121]⟩ W (by decide) (HT.out.later hb);have cW := fun (W : World) (hb : Below w.heap.size w W) => aw W (HT.out.later hb) (HE.out.later hb);have hZ := fun (W : World) (ad : Addr) (h : CAt 97 W (some ad) 1 (lkN (upd zqd 0 1) ⟨#[120]⟩ (fun _ _ => 0) (fun _ => ⟨#[]⟩))) => h.load0_link (zql0 (upd zqd 0 1) ⟨#[120]⟩ (fun _ _ => 0) (fun _ => ⟨#[]⟩)) (by decide);generalize sgF (upd zqd 0 1) ⟨#[120]⟩ (fun _ _ => 0) (fun _ => ⟨#[]⟩) 0 ⟨#[121]⟩ = M at *;generalize (fun _ _ => 0 : Nat -> Nat -> Int) = R at *;generalize (fun _ => ⟨#[]⟩ : Nat -> ByteArray) = X at *;clear hT hE aw
 go_enter Tryz.func42, Tryz.ntmps42
 go_wp2_with fail;refine cA.mono ?_
 rintro e w1 ⟨ad, c2, rfl, hc2, hC, hG⟩;have hl := fun q : More => hZ (more w1 q) ad (hC.later (zqo w1 q));clear hC hZ cA;go_wp2_with fail
 ((first | (with_reducible refine zqab zqb zqb ?_) | refine zq2 zqb zqb ?_); (repeat (first | go_big_quiet_skip | (go_big_quiet_want; go_big_quiet_op; first | go_big_quiet_on | (apply Exists.intro; refine ⟨fun _ => ?_, ?_⟩; (focus (first | (with_reducible exact Calls.of_more (cW _ (Grew.more hG _))) | (with_reducible exact Calls.of_more (cF _ (Grew.more hG _))) | (with_reducible exact Calls.of_more (cS _ (Grew.more hG _))) | (with_reducible exact Calls.of_more (cV _ (Grew.more hG _))))); go_big_quiet_on)))); refine wpQuiet_nil ?_; rintro _ ⟨mq, rfl⟩)
 have hG2 := Grew.more hG mq;go_wp2;go_ret;exact ⟨rfl, hG2⟩
end Go.Proofs.YtfglcifnjaknnaaGreatDoor
