/- Xf -/
import Derived.Test.YtdoolhbmekahdaaGreatDoorXe
import Derived.LoopNIn
import Derived.OrdersIn
import Derived.RangeFuncNested
import Derived.RangeFuncLeaves
namespace Go.Proofs.YtdoolhbmekahdaaGreatDoor
namespace Mc
open Go.RowKit
set_option linter.unusedVariables false
set_option linter.unusedSimpArgs false
inductive Tg where
 | f (f : FuncId)
 | y (k : Nat)
inductive Rs where
 | val (r : Q3)
 | skip (H : Tr O)
 | call (t : Tg) (args : List A)
noncomputable def ev (T : Nat → Option A) : Operand → Option A
 | .tmp t => T t
 | .const v => some (toA v)
 | .func f => some (.F (.func f) [])
 | .global _ => none
noncomputable def rho (T : Nat → Option A) (x : Operand) : Value := match ev T x with
 | some a => match a.pl with
  | some v => v
  | none => undef
 | none => undef
noncomputable def knw (T : Nat → Option A) (x : Operand) : Bool := match ev T x with
 | some a => a.pl.isSome
 | none => false
noncomputable def noSel : Op → Bool
 | .select .. => false
 | .defer _ => false
 | _ => true
noncomputable def gen (P : Program) (T : Nat → Option A) (H : Tr O) (n : Nm) (o : Oper) : Option Rs := match o.op.operands.toList.all (knw T) && noSel o.op with
 | true => match pu P (execOp (rho T) o) with
  | some (.value v) => some (.val (toA v, H, n))
  | some (.enter f args) => some (.call (.f f) (args.toList.map toA))
  | _ => none
 | false => none
noncomputable def evs (T : Nat → Option A) : List Operand → Option (List A)
 | [] => some []
 | x :: xs => match ev T x, evs T xs with
  | some a, some ys => some (a :: ys)
  | _, _ => none
noncomputable def evp (T : Nat → Option A) : List (Nat × Operand) → Option (List (Nat × A))
 | [] => some []
 | (i, x) :: xs => match ev T x, evp T xs with
  | some a, some ys => some ((i, a) :: ys)
  | _, _ => none
noncomputable def evo (T : Nat → Option A) : Option Operand → Option (Option A)
 | none => some none
 | some x => match ev T x with
  | some a => some (some a)
  | none => none
noncomputable def entr (P : Program) (f : FuncId) : Bool := match P.funcs[f]? with
 | some fn => fn.body.isSome && !(fn.name == "runtime.NumGoroutine")
 | none => false
noncomputable def Q3.rs : Option Q3 → Option Rs
 | some r => some (.val r)
 | none => none
noncomputable def pur (H : Tr O) (n : Nm) : Option A → Option Rs
 | some a => some (.val (a, H, n))
 | none => none
noncomputable def skp : Option (Tr O) → Option Rs
 | some H => some (.skip H)
 | none => none
noncomputable def orElse (x y : Option Rs) : Option Rs := match x with
 | some r => some r
 | none => y
noncomputable def mth (P : Program) (t : TypeId) (name : String) : Option FuncId := match P.info? t with
 | some ti => match ti.methods.find? (·.name == name) with
  | some m => match m.path.toList, m.func, P.underlying t with
   | [], some (f, true), some (.pointer _) => some f
   | [], some (f, false), some (.pointer _) => none
   | [], some (f, false), some _ => some f
   | _, _, _ => none
  | none => none
 | none => none
theorem mth_ok {P : Program} {t : TypeId} {name : String} {f : FuncId} (h : mth P t name = some f) (k : Nat) (v : Value) (w : World) : (method (k + 1) t v name).run P w = .ok (f, v) w := by
 unfold mth at h
 split at h
 ·rename_i ti hi
  split at h
  ·rename_i m hm
   split at h
   ·rename_i f' u hp hf hu
    cases h
    simp [method, run_typeInfo w hi, hm, hp, hf, follow, receiverAt, run_underlying hu, Place.get, Result.andThen]
   ·cases h
   ·rename_i f' u hnp hp hf hu
    cases h
    simp only [method, Sem.run_bind, run_typeInfo w hi, Result.andThen, hm, hp, hf, follow, Sem.run_pure, receiverAt, run_underlying hu]
    cases u <;> first | (exact absurd rfl (hnp _)) | simp [Place.get, Result.andThen]
   ·cases h
  ·cases h
 ·cases h
noncomputable def putC (H : Tr O) (n : Nm) (k o : Nat) (xs : List A) : Option (Tr O) := match H.get k with
 | some (.R cs te (0, 0)) => match Nat.ble (o + xs.length) cs.length && xs.all A.one && Nat.blt n.c (2 ^ mx) && (spl o xs cs).all (A.lt n dp) with
  | true => some (H.set mx k (some (.R (spl o xs cs) te (0, 0))))
  | false => none
 | some (.U cs te sz l) => match Nat.ble (o + xs.length) cs.length && xs.all A.one && Nat.blt n.c (2 ^ mx) && (spl o xs cs).all (A.lt n dp) with
  | true => some (H.set mx k (some (.U (spl o xs cs) te sz l)))
  | false => none
 | _ => none
theorem putC_ok {P : Program} {s : Sg} {w : World} {H H' : Tr O} {n : Nm} {k o : Nat} {xs : List A} (hI : Inv P s w H n) (h : putC H n k o xs = some H') : ∃ w', (storeCells ⟨s.a k, o, none⟩ (xs.map (A.den s))).run P w = .ok () w' ∧ Adv P s w H n s w' H' n := by
 unfold putC at h
 split at h
 ·rename_i cs te hk
  split at h
  ·rename_i hc
   cases h
   simp only [Bool.and_eq_true, Nat.ble_eq, Nat.blt_eq] at hc
   obtain ⟨⟨⟨h2, h3⟩, h4⟩, h5⟩ := hc
   have hg : w.heap[s.a k]? = some (.cells (cs.map (A.den s)).toArray te (0, 0)) := hI.ok _ _ hk
   have hst := run_storeCells_at (P := P) (s.a k) o te (xs.map (A.den s)) 0 _ w hg (by simp; omega) (fun v hv => by
    obtain ⟨y, hy, rfl⟩ := List.mem_map.1 hv
    exact A.one_den y (List.all_eq_true.1 h3 y hy))
   have e : ((cs.map (A.den s)).toArray.toList.take (o + 0) ++ xs.map (A.den s) ++ (cs.map (A.den s)).toArray.toList.drop (o + 0 + (xs.map (A.den s)).length)) = (spl o xs cs).map (A.den s) := by
    simp [spl, List.map_append, List.map_take, List.map_drop]
   rw [e] at hst
   exact ⟨w.setRow (s.a k) ((spl o xs cs).map (A.den s)).toArray, hst, Adv.put hI h4 hk h5 (keep_row _ hg) rfl rfl rfl (by rw [size_setRow']; exact Nat.le_refl _) fun b hb hne => objAt_setRow_ne w _ _ _ hne⟩
  ·cases h
 ·rename_i cs te sz l hk
  split at h
  ·rename_i hc
   cases h
   simp only [Bool.and_eq_true, Nat.ble_eq, Nat.blt_eq] at hc
   obtain ⟨⟨⟨h2, h3⟩, h4⟩, h5⟩ := hc
   obtain ⟨q1, q2⟩ := hI.ok _ _ hk
   rcases q2 with ⟨q2, -⟩ | ⟨g, cap, cur, e1, q3, q4, q5, q6, q7, q8⟩
   ·cases q2
   ·injection e1 with e1 _ e2
    injection e1 with e1
    have e3 : s.a k = g := by injection e1
    subst e3
    subst e2
    have q1' : cs.length = l * sz := by simpa using q1
    have hLe : l * sz ≤ cur.size := by rw [q7]; exact Nat.mul_le_mul_right _ q5
    have hst := run_storeCells_at (P := P) (s.a k) o te (xs.map (A.den s)) 0 _ w q4 (by simp; omega) (fun v hv => by
     obtain ⟨y, hy, rfl⟩ := List.mem_map.1 hv
     exact A.one_den y (List.all_eq_true.1 h3 y hy))
    rw [Nat.add_zero] at hst
    refine ⟨w.setRow (s.a k) (cur.toList.take o ++ xs.map (A.den s) ++ cur.toList.drop (o + (xs.map (A.den s)).length)).toArray, hst, Adv.put hI h4 hk h5 ⟨by simp [spl]; omega, .inr ⟨s.a k, s.k k, _, rfl, q3, keep_row _ q4, by omega, by omega, ?_, ?_⟩⟩ rfl rfl rfl (by rw [size_setRow']; exact Nat.le_refl _) fun b hb hne => objAt_setRow_ne w _ _ _ hne⟩
    ·simp [List.length_take]
     omega
    ·show List.take (l * sz) _ = _
     rw [List.toList_toArray, take_spl _ _ _ _ (by simp; omega) (by simpa using hLe), q8]
     simp [spl, List.map_append, List.map_take, List.map_drop]
  ·cases h
 ·cases h
noncomputable def opClr (P : Program) (H : Tr O) (n : Nm) (t : TypeId) (x : A) : Option (Tr O) := match P.underlying t, x with
 | some (.slice e), .D k o _ (l + 1) => match zer P e with
  | some v => match Nat.blt 0 v.cells.size with
   | true => putC H n k o (zeros (v.cells.toList.map A.V) (l + 1))
   | false => none
  | none => none
 | some (.slice e), .C k o (l + 1) _ => match zer P e with
  | some v => match Nat.blt 0 v.cells.size with
   | true => putC H n k o (zeros (v.cells.toList.map A.V) (l + 1))
   | false => none
  | none => none
 | _, _ => none
theorem opClr_ok {P : Program} {s : Sg} {w : World} {H H' : Tr O} {n : Nm} {t ty : TypeId} {x : A} (hI : Inv P s w H n) (h : opClr P H n t x = some H') : ∃ w', (Builtin.clear_ #[t] ty #[x.den s]).run P w = .ok (.tuple #[]) w' ∧ Adv P s w H n s w' H' n := by
 have key : ∀ (e : TypeId) (v : Value) (k o l c : Nat), P.underlying t = some (.slice e) → zer P e = some v → Nat.blt 0 v.cells.size = true → putC H n k o (zeros (v.cells.toList.map A.V) (l + 1)) = some H' →
   ∃ w', (Builtin.clear_ #[t] ty #[.slice (some ⟨s.a k, o, none⟩) (l + 1) c]).run P w = .ok (.tuple #[]) w' ∧ Adv P s w H n s w' H' n := fun e v k o l c hu hz hs hp => by
  obtain ⟨w', h1, h2⟩ := putC_ok hI hp
  rw [Nat.blt_eq] at hs
  have e1 : (Builtin.zeroCells v.cells (l + 1)).toList = (zeros (v.cells.toList.map A.V) (l + 1)).map (A.den s) := by
   have := zeros_den s v.cells v.cells.size rfl hs (l + 1)
   unfold Builtin.zeroCells
   rw [this]
  refine ⟨w', ?_, h2⟩
  have h3 := run_zer hz w
  simp [Builtin.clear_, run_underlying hu, h3, Result.andThen, e1, h1]
 unfold opClr at h
 split at h
 ·rename_i e k o e' l hu
  split at h
  ·rename_i v hz
   split at h
   ·rename_i hs
    simp only [A.den]
    exact key e v k o l _ hu hz hs h
   ·cases h
  ·cases h
 ·rename_i e k o l c hu
  split at h
  ·rename_i v hz
   split at h
   ·rename_i hs
    simp only [A.den]
    exact key e v k o l _ hu hz hs h
   ·cases h
  ·cases h
 ·cases h
noncomputable def opCall (P : Program) (T : Nat → Option A) (H : Tr O) (n : Nm) (c : Call) : Option Rs := match c.callee, evs T c.args.toList with
 | .value fo, some ys => match ev T fo with
  | some (.F (.func f) caps) => match entr P f with
   | true => some (.call (.f f) (ys ++ caps))
   | false => none
  | some (.Y k) => some (.call (.y k) ys)
  | _ => none
 | .invoke x name, some ys => match ev T x with
  | some (.I t a) => match mth P t name with
   | some f => match entr P f with
    | true => some (.call (.f f) (a :: ys))
    | false => none
   | none => none
  | _ => none
 | .builtin .len, some [x] => match c.argTypes.toList with
  | [t] => pur H n (opLen P H t x)
  | _ => none
 | .builtin .unsafeSliceData, some [x] => match c.argTypes.toList with
  | [t] => pur H n (opUSD H x)
  | _ => none
 | .builtin .unsafeString, some [x, y] => match c.argTypes.toList with
  | [t, t'] => Q3.rs (opUS P H n t x y)
  | _ => none
 | .builtin .clear, some [x] => match c.argTypes.toList with
  | [t] => match opClr P H n t x with
   | some H' => some (.val (.V (.tuple #[]), H', n))
   | none => none
  | _ => none
 | .builtin .copy, some [x, y] => match c.argTypes.toList with
  | [t, _] => Q3.rs (opCpS P H n t x y)
  | _ => none
 | .builtin .append, some [x, y] => match c.argTypes.toList with
  | [t, t'] => match Nat.beq t t' with
   | true => Q3.rs (opApp P H n t x y)
   | false => Q3.rs (opAppS P H n t t' x y)
  | _ => none
 | .builtin .delete, some [x, y] => match c.argTypes.toList with
  | [t, k] => match P.underlying t with
   | some (.map k' _) => match Nat.beq k k', opDelE P H n t x y, opDel P H n t x y with
    | true, some H', _ => some (.val (.V (.tuple #[]), H', n))
    | true, none, some H' => some (.val (.V (.tuple #[]), H', n))
    | _, _, _ => none
   | _ => none
  | _ => none
 | _, _ => none
noncomputable def evalOp (P : Program) (T : Nat → Option A) (H : Tr O) (n : Nm) (o : Oper) : Option Rs := match o.op with
 | .move x => pur H n (ev T x)
 | .assign x => pur H n (ev T x)
 | .pick c a b => match ev T c with
  | some (.V (.bool z)) => pur H n (ev T (match z with | true => a | false => b))
  | _ => none
 | .alloc t => Q3.rs (opAlloc P H n t)
 | .box t x => match ev T x with
  | some a => Q3.rs (opBox H n t a)
  | none => none
 | .build t ps => match evp T ps.toList with
  | some ps => pur H n (opBuild P t ps)
  | none => none
 | .buildSlice t l ps => match evp T ps.toList with
  | some ps => Q3.rs (opBSlice P H n t l ps)
  | none => none
 | .load t x => match ev T x with
  | some a => Q3.rs (opLoad P H n t a)
  | none => none
 | .store t x y => match ev T x, ev T y with
  | some a, some b => skp (opStore P H n t a b)
  | _, _ => none
 | .nilCheck x => match ev T x with
  | some (.P k o) => some (.val (.P k o, H, n))
  | _ => none
 | .binOp op t x y _ => match ev T x, ev T y with
  | some a, some b => orElse (pur H n (opInt op a b)) (orElse (pur H n (opNil P op t a b)) (gen P T H n o))
  | _, _ => none
 | .fieldAddr t x f => match ev T x with
  | some a => pur H n (opFld P t a f)
  | none => none
 | .indexAddr t x i => match ev T x, ev T i with
  | some a, some b => pur H n (opIdx P t a b)
  | _, _ => none
 | .slice t x lo hi mx => match ev T x, evo T lo, evo T hi, evo T mx with
  | some a, some lo, some hi, some mx => orElse (pur H n (opSlice P t a lo hi mx)) (orElse (pur H n (opSliceD P H t a lo hi mx)) (orElse (pur H n (opSlice3 P H t a lo hi mx)) (orElse (pur H n (opSliS P t a lo hi mx)) (gen P T H n o))))
  | _, _, _, _ => none
 | .extract x i => match ev T x with
  | some a => pur H n (opExt a i)
  | none => none
 | .field t x f => match ev T x with
  | some a => pur H n (opField P t a f)
  | none => none
 | .makeInterface t x => match ev T x with
  | some a => pur H n (opMkI P t a)
  | none => none
 | .makeFunc fn first cs => match first.toList, evs T cs.toList with
  | [], some cs => some (.val (.F fn cs, H, n))
  | _, _ => none
 | .makeMap t none => Q3.rs (opMkM P H n t)
 | .typeAssert x xt t false => match ev T x with
  | some a => pur H n (opAssert P a t)
  | none => none
 | .lookup t x i ok => match ev T x, ev T i with
  | some a, some b => pur H n (opLook P H t a b ok)
  | _, _ => none
 | .mapUpdate t x i v => match ev T x, ev T i, ev T v with
  | some a, some b, some c => orElse (skp (opUpdE P H n t a b c)) (skp (opUpd P H n t a b c))
  | _, _, _ => none
 | .insert t x i v => match ev T x, ev T i, ev T v with
  | some a, some b, some c => orElse (skp (opUpdE P H n t a b c)) (skp (opUpd P H n t a b c))
  | _, _, _ => none
 | .convert src dst x => match ev T x with
  | some a => orElse (pur H n (opCvt P src dst a)) (orElse (Q3.rs (opS2B P H n src dst a)) (orElse (pur H n (opB2S P H src dst a)) (gen P T H n o)))
  | none => none
 | .makeSlice t x y => match ev T x, ev T y with
  | some a, some b => Q3.rs (opMkS P H n t a b)
  | _, _ => none
 | .range t x => match ev T x with
  | some a => orElse (Q3.rs (opRange P H n t a)) (Q3.rs (opRanS P H n t a))
  | none => none
 | .next x false => match ev T x with
  | some a => Q3.rs (opNext H n a)
  | none => none
 | .next x true => match ev T x with
  | some a => Q3.rs (opNexS H n a)
  | none => none
 | .sliceToArrayPointer t x => match ev T x with
  | some a => pur H n (opArr P t a)
  | none => none
 | .entry x => match ev T x with
  | some a => pur H n (opEntry H a)
  | none => none
 | .call c => orElse (opCall P T H n c) (gen P T H n o)
 | _ => gen P T H n o
noncomputable def RsOk (P : Program) (m : Sem Next) (s : Sg) (w : World) (H : Tr O) (n : Nm) : Rs → Prop
 | .val r => ∃ s' w', m.run P w = .ok (.value (r.1.den s')) w' ∧ Adv P s w H n s' w' r.2.1 r.2.2
 | .skip H' => ∃ w', m.run P w = .ok .skip w' ∧ Adv P s w H n s w' H' n
 | .call (.f f) ys => m.run P w = .ok (.enter f (ys.map (A.den s)).toArray) w
 | .call (.y k) ys => m.run P w = (Instr.yield (s.a k) (ys.map (A.den s)).toArray).run P w
section
variable {P : Program} {T : Nat → Option A} {H : Tr O} {n : Nm} {s : Sg} {w : World} {ρ : Operand → Value}
theorem gen_ok {o : Oper} {r : Rs} (hI : Inv P s w H n) (hT : ∀ x a, ev T x = some a → ρ x = a.den s) (h : gen P T H n o = some r) : RsOk P (execOp ρ o) s w H n r := by
 unfold gen at h
 split at h
 ·rename_i hk
  rw [Bool.and_eq_true] at hk
  have e : execOp ρ o = execOp (rho T) o := execOp_congr o (fun cs b e => by rw [e] at hk; cases hk.2) fun x hx => by
   have := List.all_eq_true.1 hk.1 x (Array.mem_toList_iff.2 hx)
   unfold knw at this
   unfold rho
   cases hx : ev T x with
   | none => rw [hx] at this; cases this
   | some a =>
    rw [hx] at this
    obtain ⟨v, hv⟩ := Option.isSome_iff_exists.1 this
    simp only [hv]
    rw [hT x a hx, A.pl_den a v hv]
  rw [e]
  split at h
  ·rename_i v hv
   cases h
   exact ⟨s, w, by rw [toA_den]; exact pu_run _ _ hv w, Adv.refl hI⟩
  ·rename_i f ys hv
   cases h
   show _ = _
   have := pu_run _ _ hv w
   rw [this, List.map_map]
   have e2 : (ys.toList.map (A.den s ∘ toA)) = ys.toList := by
    conv => rhs; rw [← List.map_id ys.toList]
    exact List.map_congr_left fun a _ => toA_den s a
   rw [e2]
  ·cases h
 ·cases h
theorem evs_ok (hT : ∀ x a, ev T x = some a → ρ x = a.den s) : ∀ (xs : List Operand) (ys : List A), evs T xs = some ys → xs.map ρ = ys.map (A.den s)
 | [], ys, h => by cases h; rfl
 | x :: xs, ys, h => by
  simp only [evs] at h
  split at h
  ·rename_i a zs h1 h2
   cases h
   rw [List.map_cons, List.map_cons, hT x a h1, evs_ok hT xs zs h2]
  ·cases h
theorem evp_ok (hT : ∀ x a, ev T x = some a → ρ x = a.den s) : ∀ (xs : List (Nat × Operand)) (ys : List (Nat × A)), evp T xs = some ys → (xs.map fun (i, x) => (i, ρ x)) = ys.map fun p => (p.1, p.2.den s)
 | [], ys, h => by cases h; rfl
 | (i, x) :: xs, ys, h => by
  simp only [evp] at h
  split at h
  ·rename_i a zs h1 h2
   cases h
   simp only [List.map_cons, hT x a h1]
   rw [evp_ok hT xs zs h2]
  ·cases h
theorem evo_ok (hT : ∀ x a, ev T x = some a → ρ x = a.den s) {x : Option Operand} {a : Option A} (h : evo T x = some a) : x.map ρ = a.map (A.den s) := by
 cases x with
 | none => cases h; rfl
 | some x =>
  simp only [evo] at h
  split at h
  ·rename_i a' h1
   cases h
   rw [Option.map_some, Option.map_some, hT x a' h1]
  ·cases h
theorem pur_ok {m : Sem Value} {x : Option A} {r : Rs} (hI : Inv P s w H n) (h : pur H n x = some r) (hm : ∀ b, x = some b → m.run P w = .ok (b.den s) w) : RsOk P (do pure (.value (← m))) s w H n r := by
 cases x with
 | none => cases h
 | some b => cases h; exact ⟨s, w, by simp [hm b rfl, Result.andThen], Adv.refl hI⟩
theorem q3_ok {m : Sem Value} {x : Option Q3} {r : Rs} (h : Q3.rs x = some r) (hm : ∀ b, x = some b → Snd P m s w H n b) : RsOk P (do pure (.value (← m))) s w H n r := by
 cases x with
 | none => cases h
 | some b =>
  cases h
  obtain ⟨s', w', h1, h2⟩ := hm b rfl
  exact ⟨s', w', by simp [h1, Result.andThen], h2⟩
theorem skp_ok {m : Sem Unit} {x : Option (Tr O)} {r : Rs} (h : skp x = some r) (hm : ∀ b, x = some b → ∃ w', m.run P w = .ok () w' ∧ Adv P s w H n s w' b n) : RsOk P (do m; pure .skip) s w H n r := by
 cases x with
 | none => cases h
 | some b =>
  cases h
  obtain ⟨w', h1, h2⟩ := hm b rfl
  exact ⟨w', by simp [h1, Result.andThen], h2⟩
theorem orElse_ok {m : Sem Next} {x y : Option Rs} {r : Rs} (h : orElse x y = some r) (h1 : x = some r → RsOk P m s w H n r) (h2 : y = some r → RsOk P m s w H n r) : RsOk P m s w H n r := by
 cases x with
 | none => exact h2 h
 | some b => cases h; exact h1 rfl
theorem entr_run {f : FuncId} (he : entr P f = true) (args : Array Value) (w : World) : (callFunc f args).run P w = .ok (.enter f args) w := by
 unfold entr at he
 split at he
 ·rename_i fn hfn
  simp only [Bool.and_eq_true, Bool.not_eq_true', Option.isSome_iff_ne_none] at he
  obtain ⟨h1, h2⟩ := he
  have hb : fn.body.isNone = false := by
   cases hb : fn.body with
   | none => exact absurd hb h1
   | some _ => rfl
  simp only [callFunc, Sem.run_bind, run_program, Result.andThen, hfn, h2, hb]
  simp
 ·cases he
theorem opCall_ok {c : Call} {ty : TypeId} {r : Rs} (hI : Inv P s w H n) (hT : ∀ x a, ev T x = some a → ρ x = a.den s) (h : opCall P T H n c = some r) : RsOk P (do let d ← resolve ρ c ty; invoke d.target d.args) s w H n r := by
 obtain ⟨callee, args, ats⟩ := c
 obtain ⟨ats⟩ := ats
 obtain ⟨args⟩ := args
 unfold opCall at h
 simp only at h
 split at h
 ·rename_i fo ys hys
  have hargs := evs_ok hT _ _ hys
  split at h
  ·rename_i f caps hf
   split at h
   ·rename_i he
    cases h
    have hv := hT fo _ hf
    unfold entr at he
    split at he
    ·rename_i fn hfn
     simp only [Bool.and_eq_true, Bool.not_eq_true', Option.isSome_iff_ne_none] at he
     obtain ⟨h1, h2⟩ := he
     have hb : fn.body.isNone = false := by
      cases hb : fn.body with
      | none => exact absurd hb h1
      | some _ => rfl
     show _ = _
     simp only [resolve, hv, A.den, Deferred.ofValue, Sem.run_bind, Sem.run_pure, Result.andThen, invoke, callFunc, run_program, hfn, h2, hb]
     simp [hargs]
    ·cases he
   ·cases h
  ·rename_i k hf
   cases h
   have hv := hT fo _ hf
   show _ = _
   simp only [resolve, hv, A.den, Deferred.ofValue, Sem.run_bind, Sem.run_pure, Result.andThen, invoke]
   simp [hargs]
  ·cases h
 ·rename_i x name ys hys
  have hargs := evs_ok hT _ _ hys
  split at h
  ·rename_i t a hx
   split at h
   ·rename_i f hm
    split at h
    ·rename_i he
     cases h
     have hv := hT x _ hx
     obtain ⟨k, hk⟩ : ∃ k, P.types.size + Made.depth = k + 1 := ⟨P.types.size + (Made.depth - 1), by simp [Made.depth]⟩
     have hmr := mth_ok hm k (a.den s) w
     have := entr_run he ((a.den s :: ys.map (A.den s)).toArray) w
     show _ = _
     simp only [resolve, hv, A.den, Sem.run_bind, Sem.run_pure, Result.andThen, invoke]
     simp [callMethod, run_program, Result.andThen, hk, hmr, hargs]
     rw [List.take_of_length_le (by simp)]
     exact this
    ·cases h
   ·cases h
  ·cases h
 ·rename_i x hys
  have hargs := evs_ok hT _ _ hys
  split at h
  ·rename_i t
   have e : (do let d ← resolve ρ ⟨.builtin .len, ⟨args⟩, ⟨[t]⟩⟩ ty; invoke d.target d.args : Sem Next) = (do pure (.value (← Builtin.len_ #[t] ty #[x.den s])) : Sem Next) := by
    simp [resolve, invoke, builtin, hargs]
   rw [e]
   exact pur_ok hI h fun b hb => opLen_ok hI hb
  ·cases h
 ·rename_i x hys
  have hargs := evs_ok hT _ _ hys
  split at h
  ·rename_i t
   have e : (do let d ← resolve ρ ⟨.builtin .unsafeSliceData, ⟨args⟩, ⟨[t]⟩⟩ ty; invoke d.target d.args : Sem Next) = (do pure (.value (← Builtin.unsafeSliceData_ #[t] ty #[x.den s])) : Sem Next) := by
    simp [resolve, invoke, builtin, hargs]
   rw [e]
   exact pur_ok hI h fun b hb => opUSD_ok hI hb
  ·cases h
 ·rename_i x y hys
  have hargs := evs_ok hT _ _ hys
  split at h
  ·rename_i t t'
   have e : (do let d ← resolve ρ ⟨.builtin .unsafeString, ⟨args⟩, ⟨[t, t']⟩⟩ ty; invoke d.target d.args : Sem Next) = (do pure (.value (← Builtin.unsafeString_ #[t, t'] ty #[x.den s, y.den s])) : Sem Next) := by
    simp [resolve, invoke, builtin, hargs]
   rw [e]
   exact q3_ok h fun b hb => opUS_ok hI hb
  ·cases h
 ·rename_i x hys
  have hargs := evs_ok hT _ _ hys
  split at h
  ·rename_i t
   have e : (do let d ← resolve ρ ⟨.builtin .clear, ⟨args⟩, ⟨[t]⟩⟩ ty; invoke d.target d.args : Sem Next) = (do pure (.value (← Builtin.clear_ #[t] ty #[x.den s])) : Sem Next) := by
    simp [resolve, invoke, builtin, hargs]
   rw [e]
   split at h
   ·rename_i H' hc
    cases h
    obtain ⟨w', h1, h2⟩ := opClr_ok (ty := ty) hI hc
    exact ⟨s, w', by simp only [Sem.run_bind, h1, Result.andThen, Sem.run_pure, A.den], h2⟩
   ·cases h
  ·cases h
 ·rename_i x y hys
  have hargs := evs_ok hT _ _ hys
  split at h
  ·rename_i t t'
   have e : (do let d ← resolve ρ ⟨.builtin .copy, ⟨args⟩, ⟨[t, t']⟩⟩ ty; invoke d.target d.args : Sem Next) = (do pure (.value (← Builtin.copy_ #[t, t'] ty #[x.den s, y.den s])) : Sem Next) := by
    simp [resolve, invoke, builtin, hargs]
   rw [e]
   exact q3_ok h fun b hb => opCpS_ok hI hb
  ·cases h
 ·rename_i x y hys
  have hargs := evs_ok hT _ _ hys
  split at h
  ·rename_i t t'
   split at h
   ·rename_i ht
    obtain rfl := Nat.eq_of_beq_eq_true ht
    have e : (do let d ← resolve ρ ⟨.builtin .append, ⟨args⟩, ⟨[t, t]⟩⟩ ty; invoke d.target d.args : Sem Next) = (do pure (.value (← Builtin.append_ #[t, t] ty #[x.den s, y.den s])) : Sem Next) := by
     simp [resolve, invoke, builtin, hargs]
    rw [e]
    exact q3_ok h fun b hb => opApp_ok hI hb
   ·have e : (do let d ← resolve ρ ⟨.builtin .append, ⟨args⟩, ⟨[t, t']⟩⟩ ty; invoke d.target d.args : Sem Next) = (do pure (.value (← Builtin.append_ #[t, t'] ty #[x.den s, y.den s])) : Sem Next) := by
     simp [resolve, invoke, builtin, hargs]
    rw [e]
    exact q3_ok h fun b hb => opAppS_ok hI hb
  ·cases h
 ·rename_i x y hys
  have hargs := evs_ok hT _ _ hys
  split at h
  ·rename_i t k
   split at h
   ·rename_i k' e' hu
    split at h
    ·rename_i H' _ hk hd
     cases h
     obtain rfl := Nat.eq_of_beq_eq_true hk
     obtain ⟨w', r1, r2⟩ := opDelE_ok (ty := ty) hI ⟨_, hu⟩ hd
     refine ⟨s, w', ?_, r2⟩
     have e : (do let d ← resolve ρ ⟨.builtin .delete, ⟨args⟩, ⟨[t, k]⟩⟩ ty; invoke d.target d.args : Sem Next) = (do pure (.value (← Builtin.delete_ #[t, k] ty #[x.den s, y.den s])) : Sem Next) := by
      simp [resolve, invoke, builtin, hargs]
     rw [e]
     simp [r1, Result.andThen, A.den]
    ·rename_i H' hk _ hd
     cases h
     obtain rfl := Nat.eq_of_beq_eq_true hk
     obtain ⟨w', r1, r2⟩ := opDel_ok (ty := ty) hI ⟨_, hu⟩ hd
     refine ⟨s, w', ?_, r2⟩
     have e : (do let d ← resolve ρ ⟨.builtin .delete, ⟨args⟩, ⟨[t, k]⟩⟩ ty; invoke d.target d.args : Sem Next) = (do pure (.value (← Builtin.delete_ #[t, k] ty #[x.den s, y.den s])) : Sem Next) := by
      simp [resolve, invoke, builtin, hargs]
     rw [e]
     simp [r1, Result.andThen, A.den]
    ·cases h
   ·cases h
  ·cases h
 ·cases h
theorem evalOp_ok {o : Oper} {r : Rs} (hI : Inv P s w H n) (hT : ∀ x a, ev T x = some a → ρ x = a.den s) (h : evalOp P T H n o = some r) : RsOk P (execOp ρ o) s w H n r := by
 have hG := fun h => gen_ok (o := o) (r := r) hI hT h
 obtain ⟨dst, op, ty, pos, af, gd⟩ := o
 have pairs : ∀ ps : Array (Nat × Operand), ∀ zs, evp T ps.toList = some zs → (ps.map fun (i, x) => (i, ρ x)) = (zs.map fun p => (p.1, p.2.den s)).toArray := fun ps zs h => by
  rw [← evp_ok hT _ _ h]
  obtain ⟨ps⟩ := ps
  simp
 cases op <;> simp only [evalOp] at h <;> simp only [execOp] at hG ⊢
 case move x =>
  cases hx : ev T x with
  | none => rw [hx] at h; cases h
  | some a => rw [hx] at h; cases h; exact ⟨s, w, by rw [hT x a hx]; rfl, Adv.refl hI⟩
 case assign x =>
  cases hx : ev T x with
  | none => rw [hx] at h; cases h
  | some a => rw [hx] at h; cases h; exact ⟨s, w, by rw [hT x a hx]; rfl, Adv.refl hI⟩
 case pick c a b =>
  split at h
  ·rename_i z hc
   have hc' := hT c _ hc
   cases z <;> simp only at h
   ·cases hx : ev T b with
    | none => rw [hx] at h; cases h
    | some d => rw [hx] at h; cases h; exact ⟨s, w, by simp [hc', A.den, asBool, Result.andThen, hT b d hx], Adv.refl hI⟩
   ·cases hx : ev T a with
    | none => rw [hx] at h; cases h
    | some d => rw [hx] at h; cases h; exact ⟨s, w, by simp [hc', A.den, asBool, Result.andThen, hT a d hx], Adv.refl hI⟩
  ·cases h
 case alloc t => exact q3_ok h fun b hb => opAlloc_ok hI hb
 case box t x =>
  split at h
  ·rename_i a hx
   rw [hT x a hx]
   exact q3_ok h fun b hb => opBox_ok hI hb
  ·cases h
 case build t ps =>
  split at h
  ·rename_i zs hx
   rw [pairs ps zs hx]
   exact pur_ok hI h fun b hb => opBuild_ok hb s w
  ·cases h
 case buildSlice t l ps =>
  split at h
  ·rename_i zs hx
   rw [pairs ps zs hx]
   exact q3_ok h fun b hb => opBSlice_ok hI hb
  ·cases h
 case load t x =>
  split at h
  ·rename_i a hx
   rw [hT x a hx]
   exact q3_ok h fun b hb => opLoad_ok hI hb
  ·cases h
 case store t x y =>
  split at h
  ·rename_i a b hx hy
   rw [hT x a hx, hT y b hy]
   exact skp_ok h fun b hb => opStore_ok hI hb
  ·cases h
 case nilCheck x =>
  split at h
  ·rename_i k o hx
   cases h
   exact ⟨s, w, by rw [hT x _ hx]; simp [A.den], Adv.refl hI⟩
  ·cases h
 case binOp op t x y yt =>
  split at h
  ·rename_i a b hx hy
   refine orElse_ok h (fun h => ?_) fun h => orElse_ok h (fun h => ?_) hG
   ·rw [hT x a hx, hT y b hy]
    exact pur_ok hI h fun b hb => opInt_ok x y hb s w
   ·rw [hT x a hx, hT y b hy]
    exact pur_ok hI h fun b hb => opNil_ok x y hb s w
  ·cases h
 case fieldAddr t x f =>
  split at h
  ·rename_i a hx
   rw [hT x a hx]
   exact pur_ok hI h fun b hb => opFld_ok hb s w
  ·cases h
 case indexAddr t x i =>
  split at h
  ·rename_i a b hx hy
   rw [hT x a hx, hT i b hy]
   exact pur_ok hI h fun b hb => opIdx_ok hb s w
  ·cases h
 case slice t x lo hi mx =>
  split at h
  ·rename_i a lo' hi' mx' hx h1 h2 h3
   refine orElse_ok h (fun h => ?_) fun h => orElse_ok h (fun h => ?_) fun h => orElse_ok h (fun h => ?_) fun h => orElse_ok h (fun h => ?_) hG
   ·rw [hT x a hx, evo_ok hT h1, evo_ok hT h2, evo_ok hT h3]
    exact pur_ok hI h fun b hb => opSlice_ok hb s w
   ·rw [hT x a hx, evo_ok hT h1, evo_ok hT h2, evo_ok hT h3]
    exact pur_ok hI h fun b hb => opSliceD_ok hI hb
   ·rw [hT x a hx, evo_ok hT h1, evo_ok hT h2, evo_ok hT h3]
    exact pur_ok hI h fun b hb => opSlice3_ok hI hb
   ·rw [hT x a hx, evo_ok hT h1, evo_ok hT h2, evo_ok hT h3]
    exact pur_ok hI h fun b hb => opSliS_ok hb s w
  ·cases h
 case extract x i =>
  split at h
  ·rename_i a hx
   rw [hT x a hx]
   exact pur_ok hI h fun b hb => opExt_ok hb s w
  ·cases h
 case field t x f =>
  split at h
  ·rename_i a hx
   rw [hT x a hx]
   exact pur_ok hI h fun b hb => opField_ok hb s w
  ·cases h
 case makeInterface t x =>
  split at h
  ·rename_i a hx
   rw [hT x a hx]
   exact pur_ok hI h fun b hb => opMkI_ok hb s w
  ·cases h
 case makeFunc fn first cs =>
  split at h
  ·rename_i zs hf hx
   cases h
   have e1 : first = #[] := by rw [← Array.toArray_toList (xs := first), hf]
   have e2 : cs.map ρ = (zs.map (A.den s)).toArray := by
    rw [← evs_ok hT _ _ hx]
    obtain ⟨cs⟩ := cs
    simp
   exact ⟨s, w, by simp [Instr.makeFunc, e1, e2, A.den, Result.andThen], Adv.refl hI⟩
  ·cases h
 case makeMap t r =>
  cases r with
  | none => exact q3_ok h fun b hb => opMkM_ok hI hb
  | some r => exact hG h
 case typeAssert x xt t ok =>
  cases ok with
  | true => exact hG h
  | false =>
   simp only at h
   split at h
   ·rename_i a hx
    rw [hT x a hx]
    exact pur_ok hI h fun b hb => opAssert_ok hb s w
   ·cases h
 case lookup t x i ok =>
  split at h
  ·rename_i a b hx hy
   rw [hT x a hx, hT i b hy]
   exact pur_ok hI h fun b hb => opLook_ok hI hb
  ·cases h
 case mapUpdate t x i v =>
  split at h
  ·rename_i a b c hx hy hz
   rw [hT x a hx, hT i b hy, hT v c hz]
   exact orElse_ok h (fun h => skp_ok h fun b hb => opUpdE_ok hI hb) fun h => skp_ok h fun b hb => opUpd_ok hI hb
  ·cases h
 case insert t x i v =>
  split at h
  ·rename_i a b c hx hy hz
   rw [hT x a hx, hT i b hy, hT v c hz]
   exact orElse_ok h (fun h => skp_ok h fun b hb => opUpdE_ok hI hb) fun h => skp_ok h fun b hb => opUpd_ok hI hb
  ·cases h
 case range t x =>
  split at h
  ·rename_i a hx
   rw [hT x a hx]
   exact orElse_ok h (fun h => q3_ok h fun b hb => opRange_ok hI hb) fun h => q3_ok h fun b hb => opRanS_ok hI hb
  ·cases h
 case next x is =>
  cases is
  ·simp only at h
   split at h
   ·rename_i a hx
    rw [hT x a hx]
    exact q3_ok h fun b hb => opNext_ok hI hb
   ·cases h
  ·simp only at h
   split at h
   ·rename_i a hx
    rw [hT x a hx]
    exact q3_ok h fun b hb => opNexS_ok hI hb
   ·cases h
 case sliceToArrayPointer t x =>
  split at h
  ·rename_i a hx
   rw [hT x a hx]
   exact pur_ok hI h fun b hb => opArr_ok hb s w
  ·cases h
 case entry x =>
  split at h
  ·rename_i a hx
   rw [hT x a hx]
   exact pur_ok hI h fun b hb => opEntry_ok hI hb
  ·cases h
 case convert src dst x =>
  split at h
  ·rename_i a hx
   refine orElse_ok h (fun h => ?_) fun h => orElse_ok h (fun h => ?_) fun h => orElse_ok h (fun h => ?_) hG
   ·rw [hT x a hx]; exact pur_ok hI h fun b hb => opCvt_ok hb s w
   ·rw [hT x a hx]; exact q3_ok h fun b hb => opS2B_ok hI hb
   ·rw [hT x a hx]; exact pur_ok hI h fun b hb => opB2S_ok hI hb
  ·cases h
 case makeSlice t x y =>
  split at h
  ·rename_i a b hx hy
   rw [hT x a hx, hT y b hy]
   exact q3_ok h fun b hb => opMkS_ok hI hb
  ·cases h
 case call c => exact orElse_ok h (fun h => opCall_ok hI hT h) hG
 all_goals exact hG h
theorem evalOp_nd {o : Oper} {r : Rs} (h : evalOp P T H n o = some r) (c : Call) : o.op ≠ .defer c := fun e => by
 unfold evalOp at h
 rw [e] at h
 simp only at h
 unfold gen at h
 rw [e] at h
 simp [noSel] at h
end
end Mc
end Go.Proofs.YtdoolhbmekahdaaGreatDoor
namespace Go.Proofs.YtdoolhbmekahdaaGreatDoor
namespace Mc
open Go.RowKit
set_option linter.unusedVariables false
set_option linter.unusedSimpArgs false
structure TOkF (s : Sg) (n : Nm) (N : Nat) (T : Nat → Option A) (tm : Array Value) : Prop where
 size : tm.size = N
 val : ∀ t a, T t = some a → tm[t]? = some (a.den s)
 lt : ∀ t a, T t = some a → A.lt n dp a = true
abbrev TOk (s : Sg) (n : Nm) (N : Nat) (T : Tr A) (tm : Array Value) : Prop := TOkF s n N T.get tm
theorem TOkF.ev {s : Sg} {n : Nm} {N : Nat} {T : Nat → Option A} {a : Act} (h : TOkF s n N T a.tmps) (x : Operand) (b : A) (hx : Go.Proofs.YtdoolhbmekahdaaGreatDoor.Mc.ev T x = some b) : a.eval x = b.den s := by
 cases x with
 | tmp t =>
  have := h.val t b hx
  simp [Act.eval, this]
 | const v => simp only [Go.Proofs.YtdoolhbmekahdaaGreatDoor.Mc.ev, Option.some.injEq] at hx; subst hx; rw [toA_den]; rfl
 | func f => simp only [Go.Proofs.YtdoolhbmekahdaaGreatDoor.Mc.ev, Option.some.injEq] at hx; subst hx; simp [Act.eval, A.den]
 | global g => cases hx
theorem TOkF.adv {P : Program} {s s' : Sg} {w w' : World} {G G' : Nat → Option O} {n n' : Nm} {N : Nat} {T : Nat → Option A} {tm : Array Value} (h : TOkF s n N T tm) (k : AdvF P s w G n s' w' G' n') : TOkF s' n' N T tm :=
 ⟨h.size, fun t a ht => by rw [A.den_ext k.ext dp a (h.lt t a ht)]; exact h.val t a ht, fun t a ht => A.lt_mono k.mono dp a (h.lt t a ht)⟩
noncomputable def putT (N : Nat) (n : Nm) (T : Tr A) (d : Option Tmp) (a : A) : Option (Tr A) := match d with
 | none => some T
 | some d => match Nat.blt d N && Nat.blt N (2 ^ mx - 1) && A.lt n dp a with
  | true => some (T.set mx d (some a))
  | false => none
theorem putT_ok {s : Sg} {n : Nm} {N : Nat} {T T' : Tr A} {a : Act} {d : Option Tmp} {b : A} (h : TOk s n N T a.tmps) (hp : putT N n T d b = some T') : TOk s n N T' (a.put d (b.den s)).tmps ∧ (a.put d (b.den s)).defers = a.defers := by
 unfold putT at hp
 split at hp
 ·cases hp; exact ⟨h, rfl⟩
 ·rename_i d
  split at hp
  ·rename_i hc
   cases hp
   simp only [Bool.and_eq_true, Nat.blt_eq] at hc
   obtain ⟨⟨h1, h2⟩, h3⟩ := hc
   have hg := fun j => Tr.get_set mx T d (some b) j (by omega)
   refine ⟨⟨by simp [Act.put, h.size], fun t a' ht => ?_, fun t a' ht => ?_⟩, rfl⟩
   ·rw [hg] at ht
    simp only [Act.put, Array.getElem?_setIfInBounds]
    split at ht
    ·subst t; cases ht; rw [if_pos rfl, if_pos (by rw [h.size]; exact h1)]
    ·rename_i hne; rw [if_neg (fun e => hne e.symm)]; exact h.val t a' ht
   ·rw [hg] at ht
    split at ht
    ·cases ht; exact h3
    ·exact h.lt t a' ht
  ·cases hp
structure St where
 T : Tr A
 H : Tr O
 n : Nm
abbrev Caller := Tg → List A → Tr O → Nm → Option Q3
noncomputable def RF (ro : Option Nat) : Fence := { Fence.wide with round := ro }
noncomputable def YieldR (P : Program) (L : Nat) (args : Array Value) (w : World) (R : Ending → World → Prop) : Prop := ∀ ro m, ∃ f tmps assign body, (Instr.yield L args).run P w = .ok (.round L f tmps assign body) w ∧ RoundIn (RF ro) m P L f tmps assign body w R
noncomputable def TgOk (P : Program) (s : Sg) (w : World) (args : Array Value) (R : Ending → World → Prop) : Tg → Prop
 | .f f => Calls P f args w R
 | .y k => YieldR P (s.a k) args w R
noncomputable def CallOk (P : Program) (C : Sg → World → Nm → Prop) (call : Caller) : Prop := ∀ t ys H (n : Nm) r, call t ys H n = some r → ys.all (A.lt n dp) = true → ∀ s w, C s w n → Inv P s w H n →
 TgOk P s w (ys.map (A.den s)).toArray (fun e w' => ∃ s', e = .returned (r.1.den s') ∧ Adv P s w H n s' w' r.2.1 r.2.2) t
noncomputable def CS (C : Sg → World → Nm → Prop) (P : Program) (s : Sg) (w : World) (G : Nat → Option O) (n : Nm) : Prop := ∀ s' w' G' n', AdvF P s w G n s' w' G' n' → ∀ n'' : Nm, (∀ k, n.has k = true → n''.has k = true) → (∀ k, n''.has k = true → n'.has k = true) → C s' w' n''
theorem CS.here {C : Sg → World → Nm → Prop} {P : Program} {s : Sg} {w : World} {G : Nat → Option O} {n : Nm} (h : CS C P s w G n) (hI : InvF P s w G n) : C s w n := h s w G n (AdvF.refl hI) n (fun _ h => h) fun _ h => h
theorem CS.on {C : Sg → World → Nm → Prop} {P : Program} {s s' : Sg} {w w' : World} {G G' : Nat → Option O} {n n' : Nm} (h : CS C P s w G n) (k : AdvF P s w G n s' w' G' n') : CS C P s' w' G' n' := fun _ _ _ _ k' n'' hn hn2 => h _ _ _ _ (k.trans k') n'' (fun j hj => hn j (k.mono j hj)) hn2
noncomputable def wantA (ops : Array Oper) (T : Nat → Option A) (o : Oper) : Option Bool := match o.guard with
 | none => some true
 | some (j, want) => match ops[j]? with
  | some oj => match oj.dst with
   | some d => match T d with
    | some (.V (.bool b)) => some (b == want)
    | some _ => some false
    | none => none
   | none => none
  | none => none
theorem wantA_ok {s : Sg} {n : Nm} {N : Nat} {T : Nat → Option A} {a : Act} {ops : Array Oper} {o : Oper} {b : Bool} (h : TOkF s n N T a.tmps) (hw : wantA ops T o = some b) : Region.wanted o (yielded ops a.tmps) = b := by
 unfold wantA at hw
 unfold Region.wanted
 split at hw
 ·rename_i hg; rw [hg]; cases hw; rfl
 ·rename_i j want hg
  rw [hg]
  simp only
  split at hw
  ·rename_i oj hj
   split at hw
   ·rename_i d hd
    split at hw
    ·rename_i b' hb
     cases hw
     have := h.val d _ hb
     simp only [A.den] at this
     cases b' <;> cases want <;> simp [yielded, hj, hd, this]
    ·rename_i x hn hb
     cases hw
     have := h.val d _ hb
     have hnb : ∀ z, x.den s ≠ .bool z := fun z e => by
      cases x <;> simp only [A.den] at e <;> first | (cases e; done) | skip
      subst e
      exact hn z rfl
     simp only [yielded, hj, Option.bind_some, hd, this]
     cases hx : x.den s <;> first | rfl | (exact absurd hx (hnb _))
    ·cases hw
   ·cases hw
  ·cases hw
noncomputable def opStep (P : Program) (call : Caller) (N : Nat) (ops : Array Oper) (o : Oper) (st : St) : Option St := match wantA ops st.T.get o with
 | none => none
 | some false => match putT N st.n st.T o.dst (.V undef) with
  | some T => some ⟨T, st.H, st.n⟩
  | none => none
 | some true => match evalOp P st.T.get st.H st.n o with
  | some (.val r) => match putT N r.2.2 st.T o.dst r.1 with
   | some T => some ⟨T, r.2.1, r.2.2⟩
   | none => none
  | some (.skip H) => match putT N st.n st.T o.dst (.V undef) with
   | some T => some ⟨T, H, st.n⟩
   | none => none
  | some (.call f ys) => match ys.all (A.lt st.n dp), call f ys st.H st.n with
   | true, some r => match putT N r.2.2 st.T o.dst r.1 with
    | some T => some ⟨T, r.2.1, r.2.2⟩
    | none => none
   | _, _ => none
  | none => none
noncomputable def opStepN (P : Program) (call : Caller) (N : Nat) (ops : Array Oper) (o : Oper) (st : St) : Option St := match st with
 | ⟨T, H, n⟩ => match wantA ops T.get o with
  | none => none
  | some false => match putT N n T o.dst (.V undef) with
   | some T => some ⟨T, H, n⟩
   | none => none
  | some true => match evalOp P T.get H n o with
   | some (.val (b, H, n)) => match putT N n T o.dst b with
    | some T => some ⟨T, H, n⟩
    | none => none
   | some (.skip H) => match putT N n T o.dst (.V undef) with
    | some T => some ⟨T, H, n⟩
    | none => none
   | some (.call f ys) => match ys.all (A.lt n dp), call f ys H n with
    | true, some (b, H, n) => match putT N n T o.dst b with
     | some T => some ⟨T, H, n⟩
     | none => none
    | _, _ => none
   | none => none
theorem opStepN_eq (P : Program) (call : Caller) (N : Nat) (ops : Array Oper) (o : Oper) (st : St) : opStepN P call N ops o st = opStep P call N ops o st := by
 obtain ⟨T, H, n⟩ := st
 unfold opStepN opStep
 simp only
 cases wantA ops T.get o with
 | none => rfl
 | some b =>
  cases b with
  | false => rfl
  | true =>
   simp only
   cases evalOp P T.get H n o with
   | none => rfl
   | some r =>
    cases r with
    | val r => rfl
    | skip H => rfl
    | call f ys =>
     simp only
     cases ys.all (A.lt n dp) with
     | false => rfl
     | true => cases call f ys H n <;> rfl
theorem callsRF {P : Program} {f : FuncId} {args : Array Value} {w : World} {R : Ending → World → Prop} {ro : Option Nat} {m : Nat} (h : Calls P f args w R) : CallsIn (RF ro) m P f args w R := (callsIn_wide (n := m)).2 h
theorem RF_calls {P : Program} {f : FuncId} {args : Array Value} {w : World} {R : Ending → World → Prop} {ro : Option Nat} {m : Nat} (h : CallsIn (RF ro) m P f args w R) : Calls P f args w R := (callsIn_wide (n := m)).1 h
theorem oper_in {P : Program} {o : Oper} {a : Act} {w : World} {K : Act → World → Prop} {Q : Exit → Act → World → Prop} {ro : Option Nat} {m : Nat} (ho : ∀ c, o.op ≠ .defer c) (h : o.uponIn (RF ro) m P a K Q ((execOp a.eval o).run P w)) : o.wpIn (RF ro) m P a w K Q :=
 ⟨fun _ _ => trivial, by rw [show (RF ro).round = ro from rfl, Oper.semAt_eq ro _ o ho]; exact h⟩
theorem enter_in {P : Program} {o : Oper} {a : Act} {w : World} {K : Act → World → Prop} {Q : Exit → Act → World → Prop} {ro : Option Nat} {m : Nat} {f : FuncId} {args : Array Value} (h : Calls P f args w fun e w' => ∃ v, e = .returned v ∧ K (a.put o.dst v) w') : o.uponIn (RF ro) m P a K Q (.ok (.enter f args) w) := by
 rw [Oper.uponIn_enter]
 refine ⟨fun h => by simp [RF, Fence.wide] at h, callsRF (h.mono ?_)⟩
 rintro e w' ⟨v, rfl, h⟩
 exact h
theorem tg_in {P : Program} {o : Oper} {a : Act} {s : Sg} {w : World} {K : Act → World → Prop} {Q : Exit → Act → World → Prop} {ro : Option Nat} {m : Nat} {t : Tg} {args : Array Value} (ho : ∀ c, o.op ≠ .defer c) (hr : match t with | .f f => (execOp a.eval o).run P w = .ok (.enter f args) w | .y k => (execOp a.eval o).run P w = (Instr.yield (s.a k) args).run P w)
  (h : TgOk P s w args (fun e w' => ∃ v, e = .returned v ∧ K (a.put o.dst v) w') t) : o.wpIn (RF ro) m P a w K Q := by
 refine oper_in ho ?_
 cases t with
 | f f => rw [show (execOp a.eval o).run P w = _ from hr]; exact enter_in h
 | y k =>
  rw [show (execOp a.eval o).run P w = _ from hr]
  obtain ⟨f, tmps, assign, body, h1, h2⟩ := h ro (m - 1)
  rw [h1, Oper.uponIn_round]
  refine ⟨fun h => by simp [RF, Fence.wide] at h, h2.mono ?_⟩
  rintro e w' ⟨v, rfl, h⟩
  exact h
theorem TgOk.mono {P : Program} {s : Sg} {w : World} {args : Array Value} {R R' : Ending → World → Prop} {t : Tg} (h : TgOk P s w args R t) (hr : ∀ e w, R e w → R' e w) : TgOk P s w args R' t := by
 cases t with
 | f f => exact Calls.mono h hr
 | y k => exact fun ro m => let ⟨f, tmps, a, b, h1, h2⟩ := h ro m; ⟨f, tmps, a, b, h1, h2.mono hr⟩
section
variable {P : Program} {C : Sg → World → Nm → Prop} {call : Caller} {N : Nat} {ops : Array Oper} {ro : Option Nat} {m : Nat}
noncomputable def Then (P : Program) (N : Nat) (s : Sg) (w : World) (st st' : St) (a : Act) (K : Act → World → Prop) : Prop := ∀ s' a' w', Adv P s w st.H st.n s' w' st'.H st'.n → TOk s' st'.n N st'.T a'.tmps → a'.defers = a.defers → K a' w'
theorem opStep_ok (hc : CallOk P C call) {o : Oper} {st st' : St} {s : Sg} {w : World} {a : Act} {K : Act → World → Prop} {Q : Exit → Act → World → Prop} (h : opStep P call N ops o st = some st') (hS : CS C P s w st.H.get st.n) (hI : Inv P s w st.H st.n) (hT : TOk s st.n N st.T a.tmps)
  (hK : Then P N s w st st' a K) : if Region.wanted o (yielded ops a.tmps) then o.wpIn (RF ro) m P a w K Q else (∀ f, o.about P w a.eval = some f → (RF ro).fn f) ∧ K (a.put o.dst undef) w := by
 unfold opStep at h
 split at h
 ·cases h
 ·rename_i hw
  rw [wantA_ok hT hw]
  split at h
  ·rename_i T hp
   cases h
   obtain ⟨h1, h2⟩ := putT_ok hT hp
   simp only [A.den] at h1 h2
   exact ⟨fun _ _ => trivial, hK s _ w (Adv.refl hI) h1 h2⟩
  ·cases h
 ·rename_i hw
  rw [wantA_ok hT hw]
  show o.wpIn (RF ro) m P a w K Q
  split at h
  ·rename_i r hr
   obtain ⟨s', w', h1, h2⟩ := evalOp_ok (ρ := a.eval) hI hT.ev hr
   split at h
   ·rename_i T hp
    cases h
    obtain ⟨h3, h4⟩ := putT_ok (hT.adv h2) hp
    refine oper_in (evalOp_nd hr) ?_
    rw [h1, Oper.uponIn_value]
    exact hK s' _ w' h2 h3 h4
   ·cases h
  ·rename_i H hr
   obtain ⟨w', h1, h2⟩ := evalOp_ok (ρ := a.eval) hI hT.ev hr
   split at h
   ·rename_i T hp
    cases h
    obtain ⟨h3, h4⟩ := putT_ok (hT.adv h2) hp
    simp only [A.den] at h3 h4
    refine oper_in (evalOp_nd hr) ?_
    rw [h1, Oper.uponIn_skip]
    exact hK s _ w' h2 h3 h4
   ·cases h
  ·rename_i f ys hr
   have h1 := evalOp_ok (ρ := a.eval) hI hT.ev hr
   split at h
   ·rename_i r hl hcl
    split at h
    ·rename_i T hp
     cases h
     refine tg_in (s := s) (evalOp_nd hr) (by cases f <;> exact h1) ((hc f ys _ _ _ hcl hl s w (hS.here hI) hI).mono ?_)
     rintro e w' ⟨s', rfl, h2⟩
     obtain ⟨h3, h4⟩ := putT_ok (hT.adv h2) hp
     exact ⟨_, rfl, hK s' _ w' h2 h3 h4⟩
    ·cases h
   ·cases h
  ·cases h
noncomputable def runOps (P : Program) (call : Caller) (N : Nat) (ops : Array Oper) : List Oper → St → Option St
 | [], st => some st
 | o :: l, st => match opStepN P call N ops o st with
  | some st' => runOps P call N ops l st'
  | none => none
theorem runOps_ok (hc : CallOk P C call) {Q : Exit → Act → World → Prop} : ∀ (l : List Oper) (k : Nat) (st st' : St) (s : Sg) (w : World) (a : Act), (∀ j, l[j]? = ops[k + j]?) → runOps P call N ops l st = some st' → CS C P s w st.H.get st.n → Inv P s w st.H st.n → TOk s st.n N st.T a.tmps →
  Then P N s w st st' a (Q .normal) → wpOpsIn (RF ro) m P ops Q (List.range' k l.length) a w
 | [], k, st, st', s, w, a, hl, h, hS, hI, hT, hK => by
  cases h
  exact hK s a w (Adv.refl hI) hT rfl
 | o :: l, k, st, st', s, w, a, hl, h, hS, hI, hT, hK => by
  simp only [runOps] at h
  split at h
  ·rename_i st1 h1
   rw [opStepN_eq] at h1
   have h0 : ops[k]? = some o := by simpa using (hl 0).symm
   rw [List.length_cons, List.range'_succ, wpOpsIn_cons]
   unfold wpOpIn
   rw [h0]
   have := opStep_ok hc (Q := Q) (ro := ro) (m := m) (K := wpOpsIn (RF ro) m P ops Q (List.range' (k + 1) l.length)) h1 hS hI hT fun s1 a1 w1 k1 t1 d1 =>
    runOps_ok hc l (k + 1) st1 st' s1 w1 a1 (fun j => by have := hl (j + 1); rw [List.getElem?_cons_succ] at this; rw [this]; congr 1; omega) h (hS.on k1) k1.inv t1 fun s2 a2 w2 k2 t2 d2 => hK s2 a2 w2 (k1.trans k2) t2 (d2.trans d1)
   simp only
   split
   ·rename_i hw; rw [if_pos hw] at this; exact this
   ·rename_i hw; rw [if_neg hw] at this; exact this
  ·cases h
end
inductive Ex where
 | nx
 | ex (id : Nat)
 | rt
noncomputable def Ex.to : Ex → Exit
 | .nx => .normal
 | .ex id => .exit id
 | .rt => .ret
noncomputable def loopN : Nat → (St → Option (Ex × St)) → St → Option (Ex × St)
 | 0, _, _ => none
 | k + 1, f, st => match f st with
  | some (.nx, st') => loopN k f st'
  | r => r
end Mc
end Go.Proofs.YtdoolhbmekahdaaGreatDoor
namespace Go.Proofs.YtdoolhbmekahdaaGreatDoor
namespace Mc
open Go.RowKit
set_option linter.unusedVariables false
set_option linter.unusedSimpArgs false
theorem O.kind {P : Program} {s : Sg} {w : World} {k : Nat} {o : O} (h : o.ok P s w k) : ∃ x : Obj, w.heap[s.a k]? = some x ∧ ((∃ c t z, x = .cells c t z) ∨ (∃ es c, x = .map es c) ∨ (∃ m a b c, x = .mapIter m a b c) ∨ ∃ b i, x = .stringIter b i) := by
 cases o with
 | R cs t z => exact ⟨_, h, .inl ⟨_, _, _, rfl⟩⟩
 | U cs t sz l =>
  obtain ⟨-, h2⟩ := h
  rcases h2 with ⟨h2, -⟩ | ⟨g, cap, cur, e, -, h4, -⟩
  ·cases h2
  ·have e2 : s.a k = g := by injection e with e; injection e with e; injection e
   subst e2
   exact ⟨_, h4, .inl ⟨_, _, _, rfl⟩⟩
 | M es kt q => obtain ⟨es, c, h1, -⟩ := h; exact ⟨_, h1, .inr (.inl ⟨_, _, rfl⟩)⟩
 | E e c kt q => exact ⟨_, h, .inr (.inl ⟨_, _, rfl⟩)⟩
 | N m a b c => exact ⟨_, h, .inr (.inr (.inl ⟨_, _, _, _, rfl⟩))⟩
 | J l i => obtain ⟨b, h1, -⟩ := h; exact ⟨_, h1, .inr (.inr (.inr ⟨_, _, rfl⟩))⟩
 | B cs t => obtain ⟨cur, z, h1, -⟩ := h; exact ⟨_, h1, .inl ⟨_, _, _, rfl⟩⟩
 | X cs => obtain ⟨t, z, h1⟩ := h; exact ⟨_, h1, .inl ⟨_, _, _, rfl⟩⟩
noncomputable def Aside : Obj → Prop
 | .deferred _ => True
 | .loop _ => True
 | _ => False
theorem InvF.aside {P : Program} {s : Sg} {w : World} {G : Nat → Option O} {n : Nm} (h : InvF P s w G n) {b : Nat} {x : Obj} (hb : w.heap[b]? = some x) (hx : Aside x) (k : Nat) (o : O) (hk : G k = some o) : s.a k ≠ b := fun e => by
 obtain ⟨y, h1, h2⟩ := O.kind (h.ok k o hk)
 rw [e, hb] at h1
 cases h1
 rcases h2 with ⟨_, _, _, rfl⟩ | ⟨_, _, rfl⟩ | ⟨_, _, _, _, rfl⟩ | ⟨_, _, rfl⟩ <;> exact hx
theorem AdvF.kept {P : Program} {s s' : Sg} {w w' : World} {G G' : Nat → Option O} {n n' : Nm} (h : AdvF P s w G n s' w' G' n') (hI : InvF P s w G n) {b : Nat} {x : Obj} (hb : w.heap[b]? = some x) (hx : Aside x) : w'.heap[b]? = some x :=
 (h.fr b (lt_of_objAt hb) (hI.aside hb hx)).trans hb
theorem InvF.world {P : Program} {s : Sg} {w w' : World} {G : Nat → Option O} {n : Nm} (h : InvF P s w G n) (hw : ∀ k o, G k = some o → w'.heap[s.a k]? = w.heap[s.a k]?) : InvF P s w' G n :=
 ⟨fun k o hk => O.ok_world (h.ok k o hk) (hw k o hk), h.lt, h.inj, h.fresh⟩
theorem AdvF.put {P : Program} {s s' : Sg} {w w' : World} {G G' : Nat → Option O} {n n' : Nm} (h : AdvF P s w G n s' w' G' n') {b : Nat} {x : Obj} (y : Obj) (hb : w'.heap[b]? = some x) (hx : Aside x) (hw : w.heap.size ≤ b) : AdvF P s w G n s' (w'.putObj b y) G' n' := by
 have hne := h.inv.aside hb hx
 refine ⟨h.ext, h.inv.world fun k o hk => World.putObj_heap_other (hne k o hk), h.le, h.mono, h.back, h.news, h.dom, h.os, h.tape, h.output, ?_, fun c hc hn => ?_, h.own⟩
 ·rw [World.putObj_size]; exact h.size
 ·rw [World.putObj_heap_other (by omega)]; exact h.fr c hc hn
theorem AdvF.busy {P : Program} {s s2 s4 : Sg} {w w2 w4 : World} {G G2 G4 : Nat → Option O} {n n2 n4 : Nm} (hI : InvF P s w G n) (k2 : AdvF P s w G n s2 w2 G2 n2) {L : Nat} {x y : Obj} (hL : w.heap[L]? = some x) (hx : Aside x) (hy : Aside y)
  (k4 : AdvF P s2 (w2.putObj L y) G2 n2 s4 w4 G4 n4) : AdvF P s w G n s4 (w4.putObj L x) G4 n4 := by
 have hL2 := k2.kept hI hL hx
 have hlt := lt_of_objAt hL2
 have hI2 : InvF P s2 (w2.putObj L y) G2 n2 := k2.inv.world fun k o hk => World.putObj_heap_other (k2.inv.aside hL2 hx k o hk)
 have hL3 : (w2.putObj L y).heap[L]? = some y := World.putObj_heap_same hlt
 have hL4 := k4.kept hI2 hL3 hy
 have hlt4 := lt_of_objAt hL4
 refine k2.trans ⟨k4.ext, k4.inv.world fun k o hk => World.putObj_heap_other (k4.inv.aside hL4 hy k o hk), k4.le, k4.mono, k4.back, fun k hk => ?_, k4.dom, k4.os, k4.tape, k4.output, ?_, fun b hb hn => ?_, fun k o hk => ?_⟩
 ·have := k4.news k hk
  rw [World.putObj_size] at this
  exact this
 ·have := k4.size
  rw [World.putObj_size] at this ⊢
  exact this
 ·by_cases e : b = L
  ·subst e
   rw [World.putObj_heap_same hlt4, hL2]
  ·rw [World.putObj_heap_other e, k4.fr b (by rw [World.putObj_size]; exact hb) hn, World.putObj_heap_other e]
 ·have := k4.own k o hk
  rw [World.putObj_size] at this
  exact this
theorem Adv.nm {P : Program} {s : Sg} {w w' : World} {H : Tr O} {n : Nm} {a : Nat} (h : Inv P s w H n) (ha : w.heap.size ≤ a) (hos : w'.os = w.os) (ht : w'.tape = w.tape) (hout : w'.output = w.output) (hsz : w.heap.size ≤ w'.heap.size) (hfr : ∀ b, b < w.heap.size → w'.heap[b]? = w.heap[b]?) : Adv P s w H n (s.add n a 0) w' H n.nx := by
 have hext := s.add_old n a 0
 refine ⟨hext, ⟨fun k o hk => ?_, fun k o hk => ?_, fun j k o o' hj hk e => ?_, fun k hk => h.fresh k (Nat.le_of_succ_le hk)⟩, Nat.le_succ _, fun _ => n.has_nx, n.back_nx, fun k hk => ?_, fun k o hk => .inr ⟨o, hk⟩, hos, ht, hout, hsz, fun b hb _ => hfr b hb, fun k o hk => .inr ⟨k, o, hk, ?_⟩⟩
 ·have h1 := h.lt k o hk
  have h2 := h.ok k o hk
  exact O.ok_names (O.ok_world h2 (hfr _ (O.here h2))) h1.1 hext h1.2
 ·have h1 := h.lt k o hk
  exact ⟨n.has_nx h1.1, O.lt_mono (fun _ => n.has_nx) h1.2⟩
 ·rw [(hext j (h.lt j o hj).1).1, (hext k (h.lt k o' hk).1).1] at e
  exact h.inj j k o o' hj hk e
 ·rcases n.back_nx k hk with h1 | h1
  ·exact .inl h1
  ·have := Nm.has_lt hk
   obtain rfl : k = n.c := Nat.le_antisymm (Nat.le_of_lt_succ this) h1
   exact .inr (.inl (by rw [(s.add_new n a 0).1]; exact ha))
 ·exact ((hext k (h.lt k o hk).1).1).symm
noncomputable def cd (D : Nat) : Deferred := { target := .collected D, args := #[] }
noncomputable def Dfs (w w' : World) (d d' : List Deferred) : Prop := ∃ Ds : List Nat, d' = Ds.map cd ++ d ∧ Ds.Nodup ∧ ∀ D ∈ Ds, w.heap.size ≤ D ∧ w'.heap[D]? = some (.deferred (some []))
theorem Dfs.same {w w' : World} {d d' : List Deferred} (h : d' = d) : Dfs w w' d d' := ⟨[], by simp [h], List.nodup_nil, fun _ h => by cases h⟩
theorem Dfs.trans {P : Program} {s1 s2 : Sg} {w w1 w2 : World} {G1 G2 : Nat → Option O} {n1 n2 : Nm} {d d1 d2 : List Deferred} (h : Dfs w w1 d d1) (hI : InvF P s1 w1 G1 n1) (k : AdvF P s1 w1 G1 n1 s2 w2 G2 n2) (h2 : Dfs w1 w2 d1 d2) (hw : w.heap.size ≤ w1.heap.size) : Dfs w w2 d d2 := by
 obtain ⟨D1, rfl, n1, k1⟩ := h
 obtain ⟨D2, rfl, n2, k2⟩ := h2
 refine ⟨D2 ++ D1, by simp, ?_, fun D hD => ?_⟩
 ·rw [List.nodup_append]
  refine ⟨n2, n1, fun a ha b hb e => ?_⟩
  subst e
  have := lt_of_objAt (k1 a hb).2
  have := (k2 a ha).1
  omega
 ·rcases List.mem_append.1 hD with hD | hD
  ·exact ⟨Nat.le_trans hw (k2 D hD).1, (k2 D hD).2⟩
  ·exact ⟨(k1 D hD).1, k.kept hI (k1 D hD).2 trivial⟩
abbrev Drawer := Array Oper → St → Option St
noncomputable def DrawOk (P : Program) (C : Sg → World → Nm → Prop) (N : Nat) (draw : Drawer) : Prop := ∀ ops st st', draw ops st = some st' → ∀ s w a id Q, CS C P s w st.H.get st.n → Inv P s w st.H st.n → TOk s st.n N st.T a.tmps → Then P N s w st st' a (Q .normal) → ∀ ro m, (Code.region id ops true).wpIn (RF ro) m P Q a w
abbrev Yl := List A → Tr O → Nm → Option Q3
noncomputable def YlOk (P : Program) (C : Sg → World → Nm → Prop) (yl : Yl) (k : Nat) : Prop := ∀ ys H n r, yl ys H n = some r → ys.all (A.lt n dp) = true → ∀ s w, C s w n → Inv P s w H n → YieldR P (s.a k) (ys.map (A.den s)).toArray w fun e w' => ∃ s', e = .returned (r.1.den s') ∧ Adv P s w H n s' w' r.2.1 r.2.2
abbrev Iter := Yl → Nat → FuncId → List A → Tr O → Nm → Option Q3
noncomputable def StabC (P : Program) (C : Sg → World → Nm → Prop) : Prop := (∀ s w G n, InvF P s w G n → C s w n → CS C P s w G n) ∧ ∀ (s : Sg) (w : World) (n : Nm) (k : Nat) (y : Obj), C s w n → n.has k = true → C s (w.putObj (s.a k) y) n
noncomputable def ItOk (P : Program) (C0 : Sg → World → Nm → Prop) (it : Iter) : Prop := ∀ yl k f ys H n r, it yl k f ys H n = some r → ys.all (A.lt n dp) = true → ∀ C, YlOk P C yl k → ∀ s w, CS C P s w H.get n → CS C0 P s w H.get n → Inv P s w H n → Calls P f (ys.map (A.den s)).toArray w fun e w' => ∃ s', e = .returned (r.1.den s') ∧ Adv P s w H n s' w' r.2.1 r.2.2
noncomputable def noIt : Iter := fun _ _ _ _ _ _ => none
noncomputable def putPs (N : Nat) (n : Nm) : Tr A → List Tmp → List A → Option (Tr A)
 | T, [], [] => some T
 | T, p :: ps, a :: ys => match putT N n T (some p) a with
  | some T1 => putPs N n T1 ps ys
  | none => none
 | _, _, _ => none
theorem putPs_ok {s : Sg} {N : Nat} {n : Nm} : ∀ (ps : List Tmp) (ys : List A) (T T' : Tr A) (tm : Array Value), TOk s n N T tm → putPs N n T ps ys = some T' → TOk s n N T' ((ps.zip (ys.map (A.den s))).foldl (fun t x => t.setIfInBounds x.1 x.2) tm) ∧ ps.length = ys.length
 | [], [], T, T', tm, h, hp => by cases hp; exact ⟨h, rfl⟩
 | p :: ps, a :: ys, T, T', tm, h, hp => by
  simp only [putPs] at hp
  split at hp
  ·rename_i T1 h1
   have h2 := (putT_ok (a := ⟨tm, []⟩) h h1).1
   obtain ⟨h3, h4⟩ := putPs_ok ps ys T1 T' _ h2 hp
   refine ⟨?_, by simp [h4]⟩
   simp only [List.map_cons, List.zip_cons_cons, List.foldl_cons]
   exact h3
  ·cases hp
 | [], _ :: _, _, _, _, _, hp => by cases hp
 | _ :: _, [], _, _, _, _, hp => by cases hp
noncomputable def rnd (ra rb : St → Option (Ex × St)) (N : Nat) (T : Tr A) (ps : List Tmp) : Yl := fun ys H n => match putPs N n T ps ys with
 | some T1 => match ra ⟨T1, H, n⟩ with
  | some (.nx, st1) => match rb st1 with
   | some (.nx, st2) => some (.V (.bool true), st2.H, st2.n)
   | _ => none
  | _ => none
 | none => none
noncomputable def runCode (P : Program) (call : Caller) (draw : Drawer) (N fuel : Nat) : Iter → Code → St → Option (Ex × St)
 | _, .skip, st => some (.nx, st)
 | _, .label _, st => some (.nx, st)
 | _, .region _ ops false, st => match runOps P call N ops ops.toList st with
  | some st' => some (.nx, st')
  | none => none
 | _, .region _ ops true, st => match draw ops st with
  | some st' => some (.nx, st')
  | none => none
 | it, .seq x y, st => match runCode P call draw N fuel it x st with
  | some (.nx, st') => runCode P call draw N fuel it y st'
  | r => r
 | it, .cond c x y, st => match ev st.T.get c with
  | some (.V (.bool true)) => runCode P call draw N fuel it x st
  | some (.V (.bool false)) => runCode P call draw N fuel it y st
  | _ => none
 | it, .block id x, st => match runCode P call draw N fuel it x st with
  | some (.ex j, st') => match Nat.beq j id with
   | true => some (.nx, st')
   | false => some (.ex j, st')
  | r => r
 | it, .loop x, st => loopN fuel (runCode P call draw N fuel it x) st
 | it, .rangeFunc g ps assign body, st => match ev st.T.get g with
  | some (.F (.func gf) lb) => match Nat.blt (st.n.c + 1) (2 ^ mx) && lb.all (A.lt st.n dp) && entr P gf with
   | true => match it (rnd (runCode P call draw N fuel noIt assign) (runCode P call draw N fuel noIt body) N st.T ps.toList) st.n.c gf (.Y st.n.c :: lb) st.H st.n.nx with
    | some r => some (.nx, ⟨st.T, r.2.1, r.2.2⟩)
    | none => none
   | false => none
  | _ => none
 | _, .exit id, st => some (.ex id, st)
 | _, .ret, st => some (.rt, st)
 | _, _, _ => none
section
variable {P : Program} {C : Sg → World → Nm → Prop} {call : Caller} {draw : Drawer} {N fuel : Nat} {ro : Option Nat} {m : Nat}
noncomputable def ThenD (P : Program) (N : Nat) (s : Sg) (w : World) (st st' : St) (a : Act) (K : Act → World → Prop) : Prop := ∀ s' a' w', Adv P s w st.H st.n s' w' st'.H st'.n → TOk s' st'.n N st'.T a'.tmps → Dfs w w' a.defers a'.defers → K a' w'
theorem ThenD.plain {s : Sg} {w : World} {st st' : St} {a : Act} {K : Act → World → Prop} (h : ThenD P N s w st st' a K) : Then P N s w st st' a K := fun s' a' w' k t d => h s' a' w' k t (Dfs.same d)
noncomputable def CodeOk (P : Program) (C : Sg → World → Nm → Prop) (ro : Option Nat) (m N : Nat) (c : Code) (st : St) (e : Ex) (st' : St) : Prop := ∀ s w a Q, CS C P s w st.H.get st.n → Inv P s w st.H st.n → TOk s st.n N st.T a.tmps → ThenD P N s w st st' a (Q e.to) → c.wpIn (RF ro) m P Q a w
theorem loopN_ok {c : Code} {f : St → Option (Ex × St)} (hf : ∀ st e st', f st = some (e, st') → CodeOk P C ro m N c st e st') : ∀ (k : Nat) (st : St) (e : Ex) (st' : St), loopN k f st = some (e, st') → ∀ s w a Q, CS C P s w st.H.get st.n → Inv P s w st.H st.n → TOk s st.n N st.T a.tmps → ThenD P N s w st st' a (Q e.to) → Code.roundsIn (RF ro) m P c Q k a w
 | 0, _, _, _, h, _, _, _, _, _, _, _, _ => by cases h
 | k + 1, st, e, st', h, s, w, a, Q, hS, hI, hT, hK => by
  rw [roundsIn_succ]
  simp only [loopN] at h
  split at h
  ·rename_i st1 h1
   exact hf _ _ _ h1 s w a _ hS hI hT fun s1 a1 w1 k1 t1 d1 => loopN_ok hf k st1 e st' h s1 w1 a1 Q (hS.on k1) k1.inv t1 fun s2 a2 w2 k2 t2 d2 => hK s2 a2 w2 (k1.trans k2) t2 (d1.trans k1.inv k2 d2 k1.size)
  ·rename_i hn
   refine hf _ _ _ h s w a _ hS hI hT fun s1 a1 w1 k1 t1 d1 => ?_
   have := hK s1 a1 w1 k1 t1 d1
   cases e with
   | nx => exact absurd h (hn _)
   | ex id => exact this
   | rt => exact this
theorem noIt_ok : ItOk P C noIt := fun yl k f ys H n r h => by cases h
theorem range_ok (hst : StabC P C) {it : Iter} (hit : ItOk P C it) {g : Operand} {ps : Array Tmp} {assign body : Code} {st : St} {gf : FuncId} {lb : List A} {r : Q3} {ra rb : St → Option (Ex × St)}
  (hra : ∀ L m st e st', ra st = some (e, st') → CodeOk P C (some L) m N assign st e st') (hrb : ∀ L m st e st', rb st = some (e, st') → CodeOk P C (some L) m N body st e st')
  (hg : ev st.T.get g = some (.F (.func gf) lb)) (hn : st.n.c + 1 < 2 ^ mx) (hlb : lb.all (A.lt st.n dp) = true) (hen : entr P gf = true) (hr : it (rnd ra rb N st.T ps.toList) st.n.c gf (.Y st.n.c :: lb) st.H st.n.nx = some r) : CodeOk P C none m N (.rangeFunc g ps assign body) st .nx ⟨st.T, r.2.1, r.2.2⟩ := fun s w a Q hS hI hT hK => by
 refine wpIn_rangeFunc fun fn hfn => ?_
 obtain ⟨rec0, hrec⟩ : ∃ rec0 : Loop, rec0 = { state := .ready, pending := none, fn, tmps := a.tmps, params := ps, assign, body, defers := w.heap.size } := ⟨_, rfl⟩
 obtain ⟨w1, hw1⟩ : ∃ w1, w1 = (w.alloc (.deferred (some []))).alloc (.loop rec0) := ⟨_, rfl⟩
 have hgv : a.eval g = .func (.func gf) #[] (lb.map (A.den s)).toArray := by rw [hT.ev g _ hg]; simp [A.den]
 have hsz : w1.heap.size = w.heap.size + 2 := by rw [hw1]; simp
 have hold : ∀ b, b < w.heap.size → w1.heap[b]? = w.heap[b]? := fun b hb => by
  rw [hw1]
  exact (Below.heap_alloc _ _ _ (by simp; omega)).trans (Below.heap_alloc _ _ _ hb)
 have hD1 : w1.heap[w.heap.size]? = some (.deferred (some [])) := by
  rw [hw1]
  exact (Below.heap_alloc _ _ _ (by simp)).trans (World.alloc_heap_new w _)
 have hL1 : w1.heap[w.heap.size + 1]? = some (.loop rec0) := by
  rw [hw1]
  have := World.alloc_heap_new (w.alloc (.deferred (some []))) (.loop rec0)
  rwa [World.size_alloc] at this
 have hA1 : Adv P s w st.H st.n (s.add st.n (w.heap.size + 1) 0) w1 st.H st.n.nx := Adv.nm hI (Nat.le_succ _) (by rw [hw1]; rfl) (by rw [hw1]; rfl) (by rw [hw1]; rfl) (by omega) hold
 have hnew : st.n.nx.has st.n.c = true := Nm.has_new hI.fresh
 have hk1 : (s.add st.n (w.heap.size + 1) 0).a st.n.c = w.heap.size + 1 := (s.add_new st.n _ _).1
 generalize s.add st.n (w.heap.size + 1) 0 = s1 at hA1 hk1
 let C' : Sg → World → Nm → Prop := fun s' w' n => ((∃ G n', AdvF P s1 w1 st.H.get st.n.nx s' w' G n') ∧ ∀ k, st.n.nx.has k = true → n.has k = true) ∧ C s' w' n
 have hyl : YlOk P C' (rnd ra rb N st.T ps.toList) st.n.c := fun ys H n r' hr' hys s' w' ⟨⟨⟨G, n', hk⟩, hsub⟩, hc0⟩ hI' ro m => by
  have hL : s'.a st.n.c = w.heap.size + 1 := (hk.ext _ hnew).1.trans hk1
  have hlp : w'.heap[w.heap.size + 1]? = some (.loop rec0) := hk.kept hA1.inv hL1 trivial
  unfold rnd at hr'
  split at hr'
  ·rename_i T1 hT1
   split at hr'
   ·rename_i st1 hst1
    split at hr'
    ·rename_i st2 hst2
     cases hr'
     have hT' : TOk s' n N st.T a.tmps := by
      have h1 := hT.adv hA1
      exact ⟨h1.size, fun t b hb => by rw [A.den_ext (fun k hk' => hk.ext k hk') dp b (h1.lt t b hb)]; exact h1.val t b hb, fun t b hb => A.lt_mono hsub dp b (h1.lt t b hb)⟩
     obtain ⟨hTT, hlen⟩ := putPs_ok ps.toList ys st.T T1 a.tmps hT' hT1
     have hy := run_yield (P := P) (args := (ys.map (A.den s')).toArray) hlp (by rw [hrec]; simp; rw [← Array.length_toList, hlen])
     rw [hL]
     refine ⟨_, _, _, _, hy, roundIn_of_wpIn (F := RF ro) trivial ?_⟩
     have htm : (rec0.params.zip (ys.map (A.den s')).toArray).foldl (fun tmps (t, a) => tmps.setIfInBounds t a) rec0.tmps = ((ps.toList.zip (ys.map (A.den s'))).foldl (fun t x => t.setIfInBounds x.1 x.2) a.tmps) := by
      rw [hrec, ← Array.foldl_toList]
      simp
     rw [htm]
     have has : rec0.assign = assign := by rw [hrec]
     have hbo : rec0.body = body := by rw [hrec]
     rw [has, hbo]
     refine hra _ _ _ _ _ hst1 s' w' _ _ (hst.1 s' w' _ _ hI' hc0) hI' hTT fun s2 a2 w2 k2 t2 d2 => ?_
     have hL2 := k2.kept hI' hlp trivial
     refine ⟨_, run_beginRound hL2 (by rw [hrec]), ?_⟩
     have hI2 : Inv P s2 (w2.putObj (w.heap.size + 1) (.loop { rec0 with state := .busy })) st1.H st1.n := k2.inv.world fun k o hk => World.putObj_heap_other (k2.inv.aside hL2 trivial k o hk)
     have hc2 : C s2 w2 st1.n := (hst.1 s' w' _ _ hI' hc0) s2 w2 _ _ k2 st1.n k2.mono fun _ h => h
     have hc3 : C s2 (w2.putObj (w.heap.size + 1) (.loop { rec0 with state := .busy })) st1.n := by
      have h9 := hst.2 s2 w2 st1.n st.n.c (.loop { rec0 with state := .busy }) hc2 (k2.mono _ (hsub _ hnew))
      rw [(k2.ext _ (hsub _ hnew)).1, hL] at h9
      exact h9
     refine hrb _ _ _ _ _ hst2 s2 _ a2 _ (hst.1 s2 _ _ _ hI2 hc3) hI2 t2 fun s4 a4 w4 k4 t4 d4 => ?_
     have hL3 : (w2.putObj (w.heap.size + 1) (.loop { rec0 with state := .busy })).heap[w.heap.size + 1]? = some (.loop { rec0 with state := .busy }) := World.putObj_heap_same (lt_of_objAt hL2)
     have hL4 := k4.kept hI2 hL3 trivial
     refine ⟨_, _, run_endRound none hL4, s4, by simp [A.den], ?_⟩
     have hre : (.loop { { rec0 with state := .busy } with state := if (none : Option Code).isNone = true then .ready else .done, pending := none } : Obj) = .loop rec0 := by rw [hrec]; rfl
     rw [hre]
     exact AdvF.busy (y := .loop { rec0 with state := .busy }) hI' k2 hlp trivial trivial k4
    ·cases hr'
   ·cases hr'
  ·cases hr'
 have hcall := hit _ _ _ _ _ _ r hr (by
  rw [List.all_cons, Bool.and_eq_true]
  refine ⟨hnew, List.all_eq_true.2 fun b hb => A.lt_mono (fun _ => st.n.has_nx) dp b (List.all_eq_true.1 hlb b hb)⟩) C' hyl s1 w1 (fun s' w' G' n' k n'' hn'' hn2 => ⟨⟨⟨G', n', k⟩, hn''⟩, (hS.on hA1) s' w' G' n' k n'' hn'' hn2⟩) (hS.on hA1) hA1.inv
 refine ⟨w.heap.size + 1, [cd w.heap.size], w1, { target := .fn (.func gf) (lb.map (A.den s)).toArray, args := #[.func (.yield (w.heap.size + 1)) #[] #[]] }, w1, gf, ((A.Y st.n.c :: lb).map (A.den s1)).toArray, w1, ?_, ?_, fun _ _ => trivial, ?_, fun h => by simp [RF, Fence.wide] at h, callsRF (hcall.mono ?_)⟩
 ·rw [hw1, hrec]; exact run_enterLoop_outer _ _ _ _ _
 ·simp only [resolve, hgv]
  simp [go_sem]
 ·have : ((A.Y st.n.c :: lb).map (A.den s1)).toArray = #[.func (.yield (w.heap.size + 1)) #[] #[]] ++ (lb.map (A.den s)).toArray := by
   rw [List.map_cons, show (A.Y st.n.c).den s1 = .func (.yield (w.heap.size + 1)) #[] #[] by simp only [A.den, hk1], List.map_congr_left fun b hb => A.den_ext hA1.ext dp b (List.all_eq_true.1 hlb b hb)]
   simp
  rw [this]
  simp only [invoke]
  exact entr_run hen _ _
 ·rintro e w3 ⟨s3, rfl, k3⟩
  have hL3 := k3.kept hA1.inv hL1 trivial
  have hD3 := k3.kept hA1.inv hD1 trivial
  have hrun := run_endLoop (P := P) hL3 (by rw [hrec]; simp)
  have hpend : rec0.pending = none := by rw [hrec]
  rw [hpend] at hrun
  refine ⟨none, _, hrun, ?_⟩
  refine hK s3 _ _ (AdvF.put (hA1.trans k3) _ hL3 trivial (by omega)) ?_ ⟨[w.heap.size], rfl, by simp, fun D hD => ?_⟩
  ·exact hT.adv (hA1.trans k3)
  ·rw [List.mem_singleton] at hD
   subst hD
   exact ⟨Nat.le_refl _, (World.putObj_heap_other (by omega)).trans hD3⟩
theorem runCode_ok (hc : CallOk P C call) (hd : DrawOk P C N draw) : ∀ (c : Code) (it : Iter) (st : St) (e : Ex) (st' : St), runCode P call draw N fuel it c st = some (e, st') → ItOk P C it → ∀ ro m, (it = noIt ∨ (ro = none ∧ StabC P C)) → CodeOk P C ro m N c st e st'
 | .skip, it, st, e, st', h, hi, ro, m, hro, s, w, a, Q, hS, hI, hT, hK => by cases h; exact wpIn_skip (hK s a w (Adv.refl hI) hT (Dfs.same rfl))
 | .label _, it, st, e, st', h, hi, ro, m, hro, s, w, a, Q, hS, hI, hT, hK => by cases h; exact wpIn_label (hK s a w (Adv.refl hI) hT (Dfs.same rfl))
 | .region _ ops false, it, st, e, st', h, hi, ro, m, hro, s, w, a, Q, hS, hI, hT, hK => by
  simp only [runCode] at h
  split at h
  ·rename_i st1 h1
   cases h
   refine wpIn_region ?_
   have := runOps_ok hc (ro := ro) (m := m) (Q := Q) ops.toList 0 st st' s w a (fun j => by simp) h1 hS hI hT hK.plain
   rwa [Array.length_toList, ← List.range_eq_range'] at this
  ·cases h
 | .region _ ops true, it, st, e, st', h, hi, ro, m, hro, s, w, a, Q, hS, hI, hT, hK => by
  simp only [runCode] at h
  split at h
  ·rename_i st1 h1
   cases h
   exact hd _ _ _ h1 s w a _ Q hS hI hT hK.plain ro m
  ·cases h
 | .seq x y, it, st, e, st', h, hi, ro, m, hro, s, w, a, Q, hS, hI, hT, hK => by
  simp only [runCode] at h
  refine wpIn_seq ?_
  split at h
  ·rename_i st1 h1
   exact runCode_ok hc hd x it _ _ _ h1 hi ro m hro s w a _ hS hI hT fun s1 a1 w1 k1 t1 d1 => runCode_ok hc hd y it _ _ _ h hi ro m hro s1 w1 a1 Q (hS.on k1) k1.inv t1 fun s2 a2 w2 k2 t2 d2 => hK s2 a2 w2 (k1.trans k2) t2 (d1.trans k1.inv k2 d2 k1.size)
  ·rename_i hn
   refine runCode_ok hc hd x it _ _ _ h hi ro m hro s w a _ hS hI hT fun s1 a1 w1 k1 t1 d1 => ?_
   have := hK s1 a1 w1 k1 t1 d1
   cases e with
   | nx => exact absurd h (hn _)
   | ex id => exact this
   | rt => exact this
 | .cond c x y, it, st, e, st', h, hi, ro, m, hro, s, w, a, Q, hS, hI, hT, hK => by
  simp only [runCode] at h
  split at h
  ·rename_i hcv
   have := hT.ev c _ hcv
   simp only [A.den] at this
   exact wpIn_cond_true this (runCode_ok hc hd x it _ _ _ h hi ro m hro s w a Q hS hI hT hK)
  ·rename_i hcv
   have := hT.ev c _ hcv
   simp only [A.den] at this
   exact wpIn_cond_false this (runCode_ok hc hd y it _ _ _ h hi ro m hro s w a Q hS hI hT hK)
  ·cases h
 | .block id x, it, st, e, st', h, hi, ro, m, hro, s, w, a, Q, hS, hI, hT, hK => by
  simp only [runCode] at h
  refine wpIn_block ?_
  split at h
  ·rename_i j st1 h1
   refine runCode_ok hc hd x it _ _ _ h1 hi ro m hro s w a _ hS hI hT fun s1 a1 w1 k1 t1 d1 => ?_
   show if j = id then _ else _
   split at h
   ·rename_i hj
    cases h
    rw [if_pos (Nat.eq_of_beq_eq_true hj)]
    exact hK s1 a1 w1 k1 t1 d1
   ·rename_i hj
    cases h
    rw [if_neg (fun e => by subst e; rw [Nat.beq_refl] at hj; cases hj)]
    exact hK s1 a1 w1 k1 t1 d1
  ·rename_i hn
   refine runCode_ok hc hd x it _ _ _ h hi ro m hro s w a _ hS hI hT fun s1 a1 w1 k1 t1 d1 => ?_
   have := hK s1 a1 w1 k1 t1 d1
   cases e with
   | nx => exact this
   | ex id => exact absurd h (hn _ _)
   | rt => exact this
 | .loop x, it, st, e, st', h, hi, ro, m, hro, s, w, a, Q, hS, hI, hT, hK => by
  simp only [runCode] at h
  exact wpIn_loop_rounds fuel (loopN_ok (fun st e st' hf => runCode_ok hc hd x it st e st' hf hi ro m hro) fuel st e st' h s w a Q hS hI hT hK)
 | .rangeFunc g ps assign body, it, st, e, st', h, hi, ro, m, hro, s, w, a, Q, hS, hI, hT, hK => by
  simp only [runCode] at h
  split at h
  ·rename_i gf lb hg
   split at h
   ·rename_i hcond
    split at h
    ·rename_i r hr
     cases h
     simp only [Bool.and_eq_true, Nat.blt_eq] at hcond
     rcases hro with rfl | ⟨rfl, hC⟩
     ·cases hr
     ·exact range_ok hC hi (fun L m st e st' hf => runCode_ok hc hd assign noIt st e st' hf noIt_ok (some L) m (.inl rfl)) (fun L m st e st' hf => runCode_ok hc hd body noIt st e st' hf noIt_ok (some L) m (.inl rfl)) hg hcond.1.1 hcond.1.2 hcond.2 hr s w a Q hS hI hT hK
    ·cases h
   ·cases h
  ·cases h
 | .exit id, it, st, e, st', h, hi, ro, m, hro, s, w, a, Q, hS, hI, hT, hK => by cases h; exact wpIn_exit (hK s a w (Adv.refl hI) hT (Dfs.same rfl))
 | .ret, it, st, e, st', h, hi, ro, m, hro, s, w, a, Q, hS, hI, hT, hK => by cases h; exact wpIn_ret (hK s a w (Adv.refl hI) hT (Dfs.same rfl))
 | .scope _, _, _, _, _, h, _, _, _, _, _, _, _, _, _, _, _, _ => by cases h
 | .goto _, _, _, _, _, h, _, _, _, _, _, _, _, _, _, _, _, _ => by cases h
 | .refuse _, _, _, _, _, h, _, _, _, _, _, _, _, _, _, _, _, _ => by cases h
end
end Mc
end Go.Proofs.YtdoolhbmekahdaaGreatDoor
namespace Go.Proofs.YtdoolhbmekahdaaGreatDoor
namespace Mc
open Go.RowKit
set_option linter.unusedVariables false
set_option linter.unusedSimpArgs false
noncomputable def resA (P : Program) (H : Tr O) (n : Nm) (T : Tr A) : ResultVar → Option A
 | .tmp t => T.get t
 | .cell a t => match T.get a with
  | some x => match opLoad P H n t x with
   | some (y, _, _) => some y
   | none => none
  | none => none
noncomputable def resAs (P : Program) (H : Tr O) (n : Nm) (T : Tr A) : List ResultVar → Option (List A)
 | [] => some []
 | r :: rs => match resA P H n T r, resAs P H n T rs with
  | some a, some l => some (a :: l)
  | _, _ => none
noncomputable def resOf (P : Program) (H : Tr O) (n : Nm) (T : Tr A) (rs : List ResultVar) : Option A := match resAs P H n T rs with
 | some [a] => some a
 | some l => some (.T l)
 | none => none
noncomputable def args0 : List A → Nat → Tr A → Tr A
 | [], _, T => T
 | a :: l, i, T => args0 l (i + 1) (T.set mx i (some a))
noncomputable def runBody (P : Program) (call : Caller) (draw : Nat → Drawer) (it : Iter) (lp : Nat) (f : FuncId) (ys : List A) (H : Tr O) (n : Nm) : Option Q3 := match P.funcs[f]? with
 | some fn => match fn.body with
  | some c => match Nat.ble ys.length fn.ntmps && Nat.blt fn.ntmps 100000 with
   | true => match runCode P call (draw fn.ntmps) fn.ntmps lp it c ⟨args0 ys 0 .l, H, n⟩ with
    | some (.nx, st) => match resOf P st.H st.n st.T fn.results.toList with
     | some a => some (a, st.H, st.n)
     | none => none
    | some (.rt, st) => match resOf P st.H st.n st.T fn.results.toList with
     | some a => some (a, st.H, st.n)
     | none => none
    | _ => none
   | false => none
  | none => none
 | none => none
noncomputable def iter (P : Program) (fns : Caller) (draw : Caller → Nat → Drawer) (lp : Nat) : Iter := fun yl k f ys H n =>
 runBody P (fun t ys H n => match t with
  | .f g => fns (.f g) ys H n
  | .y j => match Nat.beq j k with
   | true => yl ys H n
   | false => none) (draw fun t ys H n => match t with
  | .f g => fns (.f g) ys H n
  | .y j => match Nat.beq j k with
   | true => yl ys H n
   | false => none) noIt lp f ys H n
noncomputable def runFn (P : Program) (orc : Caller) (draw : Caller → Nat → Drawer) (lp : Nat) : Nat → Caller
 | 0, _, _, _, _ => none
 | k + 1, t, ys, H, n => match t with
  | .y _ => none
  | .f f => match orc (.f f) ys H n with
   | some r => some r
   | none => runBody P (runFn P orc draw lp k) (draw (runFn P orc draw lp k)) (iter P (runFn P orc draw lp k) draw lp) lp f ys H n
theorem args0_get : ∀ (l : List A) (i : Nat) (T : Tr A) (j : Nat), i + l.length < 2 ^ mx → (args0 l i T).get j = if i ≤ j ∧ j < i + l.length then l[j - i]? else T.get j
 | [], i, T, j, h => by simp only [args0, List.length_nil]; rw [if_neg (by omega)]
 | a :: l, i, T, j, h => by
  simp only [List.length_cons] at h
  simp only [args0]
  rw [args0_get l (i + 1) _ j (by omega), Tr.get_set mx T i (some a) j (by omega), List.length_cons]
  by_cases h1 : j = i
  ·subst j
   rw [if_neg (by omega), if_pos rfl, if_pos (by omega), Nat.sub_self]
   rfl
  ·rw [if_neg h1]
   by_cases h2 : i + 1 ≤ j ∧ j < i + 1 + l.length
   ·rw [if_pos h2, if_pos (by omega), show j - i = (j - (i + 1)) + 1 by omega]
    rfl
   ·rw [if_neg h2, if_neg (by omega)]
theorem args0_ok {s : Sg} {n : Nm} {N : Nat} {ys : List A} (hl : ys.all (A.lt n dp) = true) (h1 : ys.length ≤ N) (h2 : N < 100000) : TOk s n N (args0 ys 0 .l) ((ys.map (A.den s)).toArray ++ Array.replicate (N - (ys.map (A.den s)).toArray.size) undef) := by
 have hg := fun j => args0_get ys 0 .l j (by simp only [mx]; omega)
 refine ⟨by simp; omega, fun t a ht => ?_, fun t a ht => ?_⟩ <;> rw [hg, Tr.get_l] at ht <;> split at ht <;> first | (cases ht; done) | skip
 ·rename_i hc
  rw [Array.getElem?_append_left (by simp; omega)]
  simp only [Nat.sub_zero] at ht
  simp [ht]
 ·exact List.all_eq_true.1 hl a (List.mem_of_getElem? ht)
noncomputable def resM (tm : Array Value) : ResultVar → Sem Value
 | .tmp t => pure (tm.getD t undef)
 | .cell a t => do loadVar t (← asAddr (tm.getD a undef))
theorem results_resM (fn : Func) (tm : Array Value) : results fn tm = (do let vs ← fn.results.mapM (resM tm); pure (if h : vs.size = 1 then vs[0] else .tuple vs)) := by
 unfold results
 rfl
theorem resA_ok {P : Program} {s : Sg} {w : World} {H : Tr O} {n : Nm} {N : Nat} {T : Tr A} {tm : Array Value} (hI : Inv P s w H n) (hT : TOk s n N T tm) {r : ResultVar} {a : A} (h : resA P H n T r = some a) : (resM tm r).run P w = .ok (a.den s) w := by
 have get : ∀ t a, T.get t = some a → tm.getD t undef = a.den s := fun t a h => by
  have := hT.val t a h
  rw [Array.getD_eq_getD_getElem?, this]; rfl
 cases r with
 | tmp t => simp only [resA] at h; simp only [resM, get t a h, Sem.run_pure]
 | cell b t =>
  simp only [resA] at h
  split at h
  ·rename_i x hx
   split at h
   ·rename_i y _ _ hl
    cases h
    obtain ⟨h1, ⟨k, o, rfl⟩, h3⟩ := opLoad_run hI hl
    simp only [resM, get b _ hx, A.den, Instr.loadAt, Instr.sureAddr, asAddr, Sem.run_bind, Sem.run_pure, Result.andThen] at h3 ⊢
    exact h3
   ·cases h
  ·cases h
theorem resAs_ok {P : Program} {s : Sg} {w : World} {H : Tr O} {n : Nm} {N : Nat} {T : Tr A} {tm : Array Value} (hI : Inv P s w H n) (hT : TOk s n N T tm) : ∀ (rs : List ResultVar) (l : List A), resAs P H n T rs = some l → (rs.mapM (resM tm)).run P w = .ok (l.map (A.den s)) w
 | [], l, h => by cases h; rfl
 | r :: rs, l, h => by
  simp only [resAs] at h
  split at h
  ·rename_i a l' h1 h2
   cases h
   rw [List.mapM_cons]
   simp only [Sem.run_bind, resA_ok hI hT h1, resAs_ok hI hT rs l' h2, Result.andThen, Sem.run_pure, List.map_cons]
  ·cases h
theorem resOf_ok {P : Program} {s : Sg} {w : World} {H : Tr O} {n : Nm} {N : Nat} {T : Tr A} {tm : Array Value} (hI : Inv P s w H n) (hT : TOk s n N T tm) {fn : Func} {a : A} (h : resOf P H n T fn.results.toList = some a) : (results fn tm).run P w = .ok (a.den s) w := by
 unfold resOf at h
 have key : ∀ l, resAs P H n T fn.results.toList = some l → (fn.results.mapM (resM tm)).run P w = .ok (l.map (A.den s)).toArray w := fun l hl => by
  have := resAs_ok hI hT _ _ hl
  rw [← Array.toArray_toList (xs := fn.results), List.mapM_toArray]
  simp [this, Result.andThen]
 rw [results_resM]
 split at h
 ·rename_i b hb
  cases h
  simp [key _ hb, Result.andThen]
 ·rename_i l hn hb
  cases h
  simp only [Sem.run_bind, key _ hb, Result.andThen, Sem.run_pure, A.den]
  rw [dif_neg]
  intro e
  simp only [List.size_toArray, List.length_map] at e
  match l, e with
  | [x], _ => exact hn x rfl
 ·cases h
theorem leaves_ok {P : Program} {fn : Func} {tm : Array Value} {R : Ending → World → Prop} : ∀ (Ds : List Nat) (w : World), Ds.Nodup → (∀ D ∈ Ds, w.heap[D]? = some (.deferred (some []))) →
  (∀ w', (∀ b, b ∉ Ds → w'.heap[b]? = w.heap[b]?) → w'.heap.size = w.heap.size → w'.os = w.os → w'.tape = w.tape → w'.output = w.output → LeavesInM (RF none) 5 P fn tm R [] .returning w') → LeavesInM (RF none) 5 P fn tm R (Ds.map cd ++ []) .returning w
 | [], w, _, _, h => h w (fun _ _ => rfl) rfl rfl rfl rfl
 | D :: Ds, w, hnd, hD, h => by
  rw [List.nodup_cons] at hnd
  refine ⟨by simp, .inl ⟨D, _, rfl, run_takeDeferred (hD D (by simp)), leaves_ok Ds _ hnd.2 (fun E hE => ?_) fun w' h1 h2 h3 h4 h5 => h w' (fun b hb => ?_) ?_ h3 h4 h5⟩⟩
  ·rw [World.putObj_heap_other (fun e : E = D => hnd.1 (by rw [← e]; exact hE))]
   exact hD E (by simp [hE])
  ·rw [h1 b (fun hh => hb (by simp [hh])), World.putObj_heap_other (fun e => hb (by simp [e]))]
  ·rw [h2, World.putObj_size]
theorem runBody_ok {P : Program} {C : Sg → World → Nm → Prop} {call : Caller} {draw : Nat → Drawer} {it : Iter} {lp : Nat} (hc : CallOk P C call) (hd : ∀ N, DrawOk P C N (draw N)) (hi : ItOk P C it) (hro : it = noIt ∨ StabC P C) {f : FuncId} {ys : List A} {H : Tr O} {n : Nm} {r : Q3} (h : runBody P call draw it lp f ys H n = some r)
  (hl : ys.all (A.lt n dp) = true) {s : Sg} {w : World} (hS : CS C P s w H.get n) (hI : Inv P s w H n) : Calls P f (ys.map (A.den s)).toArray w fun e w' => ∃ s', e = .returned (r.1.den s') ∧ Adv P s w H n s' w' r.2.1 r.2.2 := by
 unfold runBody at h
 split at h
 ·rename_i fn hf
  split at h
  ·rename_i c hb
   split at h
   ·rename_i hc'
    simp only [Bool.and_eq_true, Nat.ble_eq, Nat.blt_eq] at hc'
    have hT := args0_ok (s := s) hl hc'.1 hc'.2
    have go : ∀ (e : Ex) (st : St) (a : A), runCode P call (draw fn.ntmps) fn.ntmps lp it c ⟨args0 ys 0 .l, H, n⟩ = some (e, st) → (e = .nx ∨ e = .rt) → resOf P st.H st.n st.T fn.results.toList = some a →
      Calls P f (ys.map (A.den s)).toArray w fun e w' => ∃ s', e = .returned (a.den s') ∧ Adv P s w H n s' w' st.H st.n := fun e st a he hcase hres => by
     refine RF_calls (ro := none) (m := 5) (callsIn_of_wp_marks hf hb trivial ?_)
     refine runCode_ok hc (hd _) c it _ e st he hi none 5 (hro.imp id fun h => ⟨rfl, h⟩) s w _ _ hS hI hT fun s' a' w' hk ht hde => ?_
     obtain ⟨Ds, hDs, hnd, hD⟩ := hde
     have fin : LeavesInM (RF none) 5 P fn a'.tmps (fun e w' => ∃ s', e = .returned (a.den s') ∧ Adv P s w H n s' w' st.H st.n) a'.defers .returning w' := by
      rw [hDs]
      refine leaves_ok Ds w' hnd (fun D h => (hD D h).2) fun w2 h1 h2 h3 h4 h5 => ?_
      have hun : ∀ k o, st.H.get k = some o → s'.a k ∉ Ds := fun k o hko hm => hk.inv.aside (hD _ hm).2 trivial k o hko rfl
      have hk2 : Adv P s w H n s' w2 st.H st.n := ⟨hk.ext, hk.inv.world fun k o hko => h1 _ (hun k o hko), hk.le, hk.mono, hk.back, hk.news, hk.dom, h3.trans hk.os, h4.trans hk.tape, h5.trans hk.output, by rw [h2]; exact hk.size, fun b hb hn => by
       rw [h1 b fun hm => by have := (hD b hm).1; omega]
       exact hk.fr b hb hn, hk.own⟩
      exact ⟨_, resOf_ok hk2.inv ht hres, s', rfl, hk2⟩
     rcases hcase with rfl | rfl
     ·exact fin
     ·exact fin
    split at h
    ·rename_i st he
     split at h
     ·rename_i a ha; cases h; exact go _ _ _ he (.inl rfl) ha
     ·cases h
    ·rename_i st he
     split at h
     ·rename_i a ha; cases h; exact go _ _ _ he (.inr rfl) ha
     ·cases h
    ·cases h
   ·cases h
  ·cases h
 ·cases h
theorem iter_ok {P : Program} {C0 : Sg → World → Nm → Prop} {fns : Caller} {draw : Caller → Nat → Drawer} {lp : Nat} (hf : CallOk P C0 fns) (hd : ∀ call C, CallOk P C call → ∀ N, DrawOk P C N (draw call N)) : ItOk P C0 (iter P fns draw lp) := fun yl k f ys H n r h hl C hyl s w hS hS0 hI => by
 have hc : CallOk P (fun s w n => C s w n ∧ C0 s w n) (fun t ys H n => match t with
  | .f g => fns (.f g) ys H n
  | .y j => match Nat.beq j k with
   | true => yl ys H n
   | false => none) := fun t ys H n r h hl s w hC hI => by
  cases t with
  | f g => exact hf (.f g) ys H n r h hl s w hC.2 hI
  | y j =>
   simp only at h
   split at h
   ·rename_i hj
    rw [Nat.eq_of_beq_eq_true hj]
    exact hyl ys H n r h hl s w hC.1 hI
   ·cases h
 exact runBody_ok hc (hd _ _ hc) noIt_ok (.inl rfl) h hl (fun s' w' G' n' k n'' hn hn2 => ⟨hS s' w' G' n' k n'' hn hn2, hS0 s' w' G' n' k n'' hn hn2⟩) hI
theorem runFn_ok {P : Program} {C0 : Sg → World → Nm → Prop} (hst : StabC P C0) {orc : Caller} {draw : Caller → Nat → Drawer} {lp : Nat} (ho : CallOk P C0 orc) (hd : ∀ call C, CallOk P C call → ∀ N, DrawOk P C N (draw call N)) : ∀ k, CallOk P C0 (runFn P orc draw lp k)
 | 0 => fun t ys H n r h => by cases h
 | k + 1 => fun t ys H n r h hl s w hC hI => by
  have ih := runFn_ok (lp := lp) hst ho hd k
  simp only [runFn] at h
  cases t with
  | y j => cases h
  | f f =>
   simp only at h
   split at h
   ·rename_i r' hr
    cases h
    exact ho (.f f) ys H n _ hr hl s w hC hI
   ·exact runBody_ok ih (hd _ C0 ih) (iter_ok ih hd) (.inr hst) h hl (hst.1 _ _ _ _ hI hC) hI
end Mc
end Go.Proofs.YtdoolhbmekahdaaGreatDoor
