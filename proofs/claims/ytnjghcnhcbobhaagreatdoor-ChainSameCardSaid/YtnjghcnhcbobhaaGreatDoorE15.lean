/- E15 -/
import Derived.Test.YtnjghcnhcbobhaaGreatDoorMem
import Derived.WalkKit
import Derived.LaidEql
import Derived.Stop.Asserts
import Derived.RowKitTokens
import Derived.Test.YtnjghcnhcbobhaaGreatDoorTrk
import Derived.Stop.Joined
import Derived.Test.YtnjghcnhcbobhaaGreatDoorOw
import Derived.LaidHandle
import Derived.LaidSub
set_option linter.unusedVariables false
set_option linter.unusedSimpArgs false
set_option maxRecDepth 100000
set_option maxHeartbeats 4000000
namespace Go.Proofs.YtnjghcnhcbobhaaGreatDoor
open Go.RowKit Go.Extern
@[go_sem] theorem zrn8 (f : Nat) (h : Value) (w : World) : (Go.method (f + 1) 210 (.agg #[h]) "Kind").run Tryz.prog w = .ok (275, h) w := by kernel_rfl
@[go_sem] theorem zrog (f : Nat) (h : Value) (w : World) : (Go.method (f + 1) 210 (.agg #[h]) "Elem").run Tryz.prog w = .ok (289, .agg #[h]) w := by kernel_rfl
@[go_sem] theorem zq81 (f : Nat) (h : Value) (w : World) : (Go.method (f + 1) 210 (.agg #[h]) "Implements").run Tryz.prog w = .ok (290, .agg #[h]) w := by kernel_rfl
@[go_sem] theorem zq1k (f : Nat) (h : Value) (w : World) : (Go.method (f + 1) 210 (.agg #[h]) "AssignableTo").run Tryz.prog w = .ok (287, .agg #[h]) w := by kernel_rfl
@[go_sem] theorem zq6b (f : Nat) (h : Value) (w : World) : (Go.method (f + 1) 210 (.agg #[h]) "Comparable").run Tryz.prog w = .ok (288, .agg #[h]) w := by kernel_rfl
@[go_sem] theorem zrnq (f : Nat) (v : Value) (w : World) : (Go.method (f + 1) 40 v "Error").run Tryz.prog w = .ok (278, v) w := by kernel_rfl
@[go_sem] theorem zrm1 (f : Nat) (v : Value) (w : World) : (Go.method (f + 1) 165 v "Error").run Tryz.prog w = .ok (280, v) w := by kernel_rfl
@[go_sem] theorem zrjs (f : Nat) (v : Value) (w : World) : (Go.method (f + 1) 165 v "Unwrap").run Tryz.prog w = .ok (281, v) w := by kernel_rfl
@[go_sem] theorem zro2 (v : Value) (xT : TypeId) (w : World) : (Instr.typeAssert (.iface 40 v) xT 220 true).run Tryz.prog w = .ok (.tuple #[.nilIface, .bool false]) w := run_typeAssert_lacksB Tryz.underlying220 zqb zqb v xT w
@[go_sem] theorem zrod (v : Value) (xT : TypeId) (w : World) : (Instr.typeAssert (.iface 165 v) xT 220 true).run Tryz.prog w = .ok (.tuple #[.nilIface, .bool false]) w := run_typeAssert_lacksB Tryz.underlying220 zqb zqb v xT w
@[go_sem] theorem zrp5 (v : Value) (xT : TypeId) (w : World) : (Instr.typeAssert (.iface 40 v) xT 215 true).run Tryz.prog w = .ok (.tuple #[.nilIface, .bool false]) w := run_typeAssert_lacksB Tryz.underlying215 zqb zqb v xT w
@[go_sem] theorem zrpo (v : Value) (xT : TypeId) (w : World) : (Instr.typeAssert (.iface 165 v) xT 215 true).run Tryz.prog w = .ok (.tuple #[.iface 165 v, .bool true]) w := run_typeAssert_hasB Tryz.underlying215 zqb v xT w
@[go_sem] theorem zrpf (v : Value) (xT : TypeId) (w : World) : (Instr.typeAssert (.iface 40 v) xT 216 true).run Tryz.prog w = .ok (.tuple #[.nilIface, .bool false]) w := run_typeAssert_lacksB Tryz.underlying216 zqb zqb v xT w
@[go_sem] theorem zrom (v : Value) (xT : TypeId) (w : World) : (Instr.typeAssert (.iface 165 v) xT 216 true).run Tryz.prog w = .ok (.tuple #[.nilIface, .bool false]) w := run_typeAssert_lacksB Tryz.underlying216 zqb zqb v xT w
@[go_sem] theorem zrp3 (v : Value) (xT : TypeId) (w : World) : (Instr.typeAssert (.iface 40 v) xT 212 true).run Tryz.prog w = .ok (.tuple #[.nilIface, .bool false]) w := run_typeAssert_lacksB Tryz.underlying212 zqb zqb v xT w
@[go_sem] theorem zrox (v : Value) (xT : TypeId) (w : World) : (Instr.typeAssert (.iface 165 v) xT 212 true).run Tryz.prog w = .ok (.tuple #[.nilIface, .bool false]) w := run_typeAssert_lacksB Tryz.underlying212 zqb zqb v xT w
@[go_sem] theorem zrq4 (v : Value) (xT : TypeId) (w : World) : (Instr.typeAssert (.iface 165 v) xT 165 true).run Tryz.prog w = .ok (.tuple #[v, .bool true]) w := by kernel_rfl
@[go_sem] theorem zrqy (v : Value) (xT : TypeId) (w : World) : (Instr.typeAssert (.iface 40 v) xT 165 true).run Tryz.prog w = .ok (.tuple #[.pointer none, .bool false]) w := by kernel_rfl
@[go_sem] theorem zrqn (v : Value) (w : World) : (ReflectliteType.typeOf #[.iface 40 v]).run Tryz.prog w = .ok (.iface 210 (.agg #[.pointer (some ⟨4, 40, none⟩)])) w := by kernel_rfl
@[go_sem] theorem zrow (w : World) : (ReflectliteType.relation "AssignableTo" ReflectliteType.assignableTo #[.agg #[.pointer (some ⟨4, 40, none⟩)], .iface 210 (.agg #[.pointer (some ⟨4, 40, none⟩)])]).run Tryz.prog w = .ok (.bool true) w := by kernel_rfl
@[go_sem] theorem zrn7 (w : World) : (ReflectliteType.relation "AssignableTo" ReflectliteType.assignableTo #[.agg #[.pointer (some ⟨4, 40, none⟩)], .iface 210 (.agg #[.pointer (some ⟨4, 165, none⟩)])]).run Tryz.prog w = .ok (.bool false) w := by kernel_rfl
@[go_sem] theorem zrqk (v : Value) (w : World) : (ReflectliteType.typeOf #[.iface 165 v]).run Tryz.prog w = .ok (.iface 210 (.agg #[.pointer (some ⟨4, 165, none⟩)])) w := by kernel_rfl
@[go_sem] theorem zrpb (w : World) : (ReflectliteType.relation "AssignableTo" ReflectliteType.assignableTo #[.agg #[.pointer (some ⟨4, 165, none⟩)], .iface 210 (.agg #[.pointer (some ⟨4, 40, none⟩)])]).run Tryz.prog w = .ok (.bool false) w := by kernel_rfl
@[go_sem] theorem zrof (w : World) : (ReflectliteType.relation "AssignableTo" ReflectliteType.assignableTo #[.agg #[.pointer (some ⟨4, 165, none⟩)], .iface 210 (.agg #[.pointer (some ⟨4, 165, none⟩)])]).run Tryz.prog w = .ok (.bool true) w := by kernel_rfl
@[go_sem] theorem zq91 (w : World) : ((ReflectliteType.method fun t => do Rtype.noPackHeld "Comparable" t; (fun a => Value.bool a.comparable) <$> typeInfo t) #[.agg #[.pointer (some ⟨4, 40, none⟩)]]).run Tryz.prog w = .ok (.bool true) w := by kernel_rfl
@[go_sem] theorem zrpp (w : World) : ((ReflectliteType.abiMethod fun t => (fun a : Nat => Value.int IntKind.u8 (a : Int)) <$> Rtype.kind t) #[.pointer (some ⟨4, 123, none⟩)]).run Tryz.prog w = .ok (.int .u8 22) w := by kernel_rfl
@[go_sem] theorem zrqf (w : World) : ((ReflectliteType.abiMethod fun t => (fun a : Nat => Value.int IntKind.u8 (a : Int)) <$> Rtype.kind t) #[.pointer (some ⟨4, 40, none⟩)]).run Tryz.prog w = .ok (.int .u8 2) w := by kernel_rfl
@[go_sem] theorem zrqe (w : World) : ((ReflectliteType.abiMethod fun t => (fun a : Nat => Value.int IntKind.u8 (a : Int)) <$> Rtype.kind t) #[.pointer (some ⟨4, 165, none⟩)]).run Tryz.prog w = .ok (.int .u8 22) w := by kernel_rfl
@[go_sem] theorem zrq7 (n : Int) (w : World) : (ReflectliteValue.unpack (.iface 40 (.int .i64 n))).run Tryz.prog w = .ok (.agg #[.pointer (some ⟨4, 40, none⟩), .pointer (some ⟨w.heap.size, 0, none⟩), .int .u64 130]) (w.alloc (.cells #[.int .i64 n] 40)) := by kernel_rfl
theorem rlm (z : Sem Value) (f : TypeId -> Addr -> Nat -> Nat -> Sem Value) (v : Value) :
  ReflectliteValue.method z f #[v] = (do match <- ReflectliteValue.parts v with | none => z | some (t, a, fl) => f t a fl (fl % 32)) := rfl
theorem rls (v x : Value) : ReflectliteValue.set #[v, x] = (do
  let (some (dst, a, fl), some (src, b, _)) := (<- ReflectliteValue.parts v, <- ReflectliteValue.parts x)
   | unsupported (.noEntry "extern/(internal/reflectlite.Value).Set.zeroValue")
  if fl / ReflectliteValue.flagAddr % 2 == 0 then unsupported (.noEntry "extern/(internal/reflectlite.Value).Set.unaddressable")
  let val <- loadVar src b
  if <- Rtype.directlyAssignable dst src then storeVar dst a val
  else if <- Rtype.implements dst src then
   if (<- Rtype.kind src) == 20 then
    match val with
    | .nilIface => unsupported (.noEntry "extern/reflectlite: a nil value of one interface type handed on as a value of another")
    | _ => storeVar dst a val
   else storeVar dst a (.iface src val)
  else panicString ("reflectlite.Set: value of type " ++ (<- Rtype.spelt src) ++ " is not assignable to type " ++ (<- Rtype.spelt dst))
  pure (.tuple #[])) := rfl
@[go_sem] theorem zrqp (t : Addr) (w : World) : (ReflectliteValue.unpack (.iface 123 (.pointer (some t)))).run Tryz.prog w = .ok (.agg #[.pointer (some ⟨4, 123, none⟩), .pointer (some ⟨w.heap.size, 0, none⟩), .int .u64 150]) (w.alloc (.cells #[.pointer (some t)] 123)) := by kernel_rfl
@[go_sem] theorem zrqu (a : Addr) (w : World) : (ReflectliteValue.methodAny (ReflectliteValue.valueError "reflectlite.Value.Type" 0) (fun t _ _ _ => ReflectliteType.toType t) #[.agg #[.pointer (some ⟨4, 123, none⟩), .pointer (some a), .int .u64 150]]).run Tryz.prog w = .ok (.iface 210 (.agg #[.pointer (some ⟨4, 123, none⟩)])) w := by kernel_rfl
@[go_sem] theorem zrou (w : World) : (ReflectliteType.method ReflectliteType.elem #[.agg #[.pointer (some ⟨4, 123, none⟩)]]).run Tryz.prog w = .ok (.iface 210 (.agg #[.pointer (some ⟨4, 40, none⟩)])) w := by kernel_rfl
@[go_sem] theorem zrqj (w : World) : (ReflectliteType.relation "Implements" ReflectliteType.implements_ #[.agg #[.pointer (some ⟨4, 40, none⟩)], .iface 210 (.agg #[.pointer (some ⟨4, 29, none⟩)])]).run Tryz.prog w = .ok (.bool true) w := by kernel_rfl
theorem zqwe (a : Addr) (w : World) : (ReflectliteValue.parts (.agg #[.pointer (some ⟨4, 123, none⟩), .pointer (some a), .int .u64 150])).run Tryz.prog w = .ok (some (123, a, 150)) w := by kernel_rfl
theorem zq77 (a : Addr) (w : World) : (ReflectliteValue.parts (.agg #[.pointer (some ⟨4, 40, none⟩), .pointer (some a), .int .u64 386])).run Tryz.prog w = .ok (some (40, a, 386)) w := by kernel_rfl
theorem zrck (a : Addr) (w : World) : (ReflectliteValue.parts (.agg #[.pointer (some ⟨4, 40, none⟩), .pointer (some a), .int .u64 130])).run Tryz.prog w = .ok (some (40, a, 130)) w := by kernel_rfl
theorem zq09 (w : World) : (Rtype.elem? 123).run Tryz.prog w = .ok (some 40) w := by kernel_rfl
theorem mk_e (p : Addr) (w : World) : (ReflectliteValue.mk 40 p ReflectliteValue.flagAddr).run Tryz.prog w = .ok (.agg #[.pointer (some ⟨4, 40, none⟩), .pointer (some p), .int .u64 386]) w := by kernel_rfl
theorem zq8l (w : World) : (Rtype.directlyAssignable 40 40).run Tryz.prog w = .ok true w := by kernel_rfl
theorem zq6v (a p : Addr) (W : World) (ha : W.cell? a = some (.pointer (some p))) : (ReflectliteValue.method (ReflectliteValue.valueError "reflectlite.Value.IsNil" 0) ReflectliteValue.isNil #[.agg #[.pointer (some ⟨4, 123, none⟩), .pointer (some a), .int .u64 150]]).run Tryz.prog W = .ok (.bool false) W := by
 rw [rlm]
 simp only [Sem.run_bind, zqwe, Result.andThen]
 simp [ReflectliteValue.isNil, loadVar, isAgg, underlying, Tryz.underlying123, ha, Result.andThen]
theorem zq5u (a p : Addr) (W : World) (ha : W.cell? a = some (.pointer (some p))) : (ReflectliteValue.method (ReflectliteValue.valueError "reflectlite.Value.Elem" 0) ReflectliteValue.elem #[.agg #[.pointer (some ⟨4, 123, none⟩), .pointer (some a), .int .u64 150]]).run Tryz.prog W = .ok (.agg #[.pointer (some ⟨4, 40, none⟩), .pointer (some p), .int .u64 386]) W := by
 rw [rlm]
 simp only [Sem.run_bind, zqwe, Result.andThen]
 simp [ReflectliteValue.elem, loadVar, isAgg, underlying, Tryz.underlying123, ha, Result.andThen, zq09, mk_e]
theorem zro8 (ta b : Addr) (n : Int) (old : Value) (W : World) (hb : W.cell? b = some (.int .i64 n)) (ht : W.cell? ta = some old) (hf : W.frozen? ta = false) : (ReflectliteValue.set #[.agg #[.pointer (some ⟨4, 40, none⟩), .pointer (some ta), .int .u64 386], .agg #[.pointer (some ⟨4, 40, none⟩), .pointer (some b), .int .u64 130]]).run Tryz.prog W = .ok (.tuple #[]) (W.setCell ta (.int .i64 n)) := by
 rw [rls]
 simp only [Sem.run_bind, zq77, zrck, Result.andThen]
 simp [ReflectliteValue.flagAddr, loadVar, isAgg, underlying, Tryz.underlying40, hb, Result.andThen, zq8l, storeVar, Value.cells, storeCells, Addr.add]
 rw [run_store Tryz.prog W ta _ _ (by rfl)]
 simp [ht, hf]
@[go_sem] theorem zrq1 (t : Option Addr) (w : World) : (ReflectliteValue.unpack (.iface 165 (.pointer t))).run Tryz.prog w = .ok (.agg #[.pointer (some ⟨4, 165, none⟩), .pointer (some ⟨w.heap.size, 0, none⟩), .int .u64 150]) (w.alloc (.cells #[.pointer t] 165)) := by kernel_rfl
@[go_sem] theorem zrqs (w : World) : (ReflectliteType.relation "Implements" ReflectliteType.implements_ #[.agg #[.pointer (some ⟨4, 165, none⟩)], .iface 210 (.agg #[.pointer (some ⟨4, 29, none⟩)])]).run Tryz.prog w = .ok (.bool true) w := by kernel_rfl
end Go.Proofs.YtnjghcnhcbobhaaGreatDoor
namespace Go.Proofs.YtnjghcnhcbobhaaGreatDoor
open Go.RowKit Go.Extern
def Chn (w : World) : List ByteArray -> Value -> Value -> Prop
 | [], b, v => v = b
 | s :: l, b, v => ∃ g u, v = .iface 165 (.pointer (some ⟨g, 0, none⟩)) /\ zqd w g = some (.cells #[.string s, u] 167) /\ Chn w l b u
theorem Chn.later {w w' : World} (hb : Below w.heap.size w w') : ∀ {l : List ByteArray} {b v : Value}, Chn w l b v -> Chn w' l b v
 | [], _, _, h => h
 | _ :: l, _, _, ⟨g, u, e, h, hc⟩ => ⟨g, u, e, zqc hb h, hc.later hb⟩
def Bare (b : Value) : Prop := ∀ x, b ≠ .iface 165 x
theorem zq1p {w : World} {b b' v : Value} (hb : Bare b) (hb' : Bare b') : ∀ {l l' : List ByteArray}, Chn w l b v -> Chn w l' b' v -> l.length = l'.length
 | [], [], _, _ => rfl
 | [], _ :: _, h, ⟨g, u, e, _⟩ => absurd (h.symm.trans e) (hb _)
 | _ :: _, [], ⟨g, u, e, _⟩, h => absurd (h.symm.trans e) (hb' _)
 | _ :: l, _ :: l', ⟨g, u, e, h, hc⟩, ⟨g', u', e', h', hc'⟩ => by
  rw [e] at e'
  cases e'
  rw [h] at h'
  injection h' with h'
  injection h' with h'
  obtain ⟨_, rfl⟩ : _ /\ u = u' := by simpa using h'
  rw [List.length_cons, List.length_cons, zq1p hb hb' hc hc']
noncomputable def deep (w : World) (v : Value) : Nat := by
 classical exact if h : ∃ l b, Bare b /\ Chn w l b v then h.choose.length else 0
theorem zqp6 {w : World} {l : List ByteArray} {b v : Value} (hb : Bare b) (h : Chn w l b v) : deep w v = l.length := by
 have hx : ∃ l b, Bare b /\ Chn w l b v := ⟨l, b, hb, h⟩
 unfold deep;rw [dif_pos hx];obtain ⟨b', h1, h2⟩ := hx.choose_spec;exact zq1p h1 hb h2 h
theorem zqpe (n : Value) : Bare (.iface 40 n) := fun x h => by injection h with h; exact absurd h (by decide)
def EtAt (w : World) : Prop := ∃ t fr, zqd w 0 = some (.cells #[.iface 210 (.agg #[.pointer (some ⟨4, 29, none⟩)])] t fr)
theorem EtAt.later {w w' : World} (h : EtAt w) (hb : Below w.heap.size w w') : EtAt w' := by
 obtain ⟨t, fr, h⟩ := h;exact ⟨t, fr, zqc hb h⟩
theorem zqtx (g : Nat) (s : ByteArray) (u : Value) (w : World) (h : zqd w g = some (.cells #[.string s, u] 167)) :
  Calls Tryz.prog 281 #[.pointer (some ⟨g, 0, none⟩)] w fun e w' => e = .returned u /\ w' = w := by
 go_enter Tryz.func281, Tryz.ntmps281
 go_wp2;go_ret;exact ⟨rfl, rfl⟩
@[go_sem] theorem zrq9 (args : Array Value) (w : World) : (callFunc 95 args).run Tryz.prog w = (((fun args => ReflectliteValue.unpack (args.getD 0 (.tuple #[]))) args).run Tryz.prog w).andThen fun v w' => .ok (.value v) w' := run_callFunc_extern (e := (fun args => ReflectliteValue.unpack (args.getD 0 (.tuple #[])))) Tryz.func95 zqb zqb zqb zqb args w
@[go_sem] theorem zrqz (args : Array Value) (w : World) : (callFunc 96 args).run Tryz.prog w = (((ReflectliteValue.methodAny (ReflectliteValue.valueError "reflectlite.Value.Type" 0) (fun t _ _ _ => ReflectliteType.toType t)) args).run Tryz.prog w).andThen fun v w' => .ok (.value v) w' := run_callFunc_extern (e := (ReflectliteValue.methodAny (ReflectliteValue.valueError "reflectlite.Value.Type" 0) (fun t _ _ _ => ReflectliteType.toType t))) Tryz.func96 zqb zqb zqb zqb args w
@[go_sem] theorem zrq0 (args : Array Value) (w : World) : (callFunc 97 args).run Tryz.prog w = (((ReflectliteValue.method (ReflectliteValue.valueError "reflectlite.Value.IsNil" 0) ReflectliteValue.isNil) args).run Tryz.prog w).andThen fun v w' => .ok (.value v) w' := run_callFunc_extern (e := (ReflectliteValue.method (ReflectliteValue.valueError "reflectlite.Value.IsNil" 0) ReflectliteValue.isNil)) Tryz.func97 zqb zqb zqb zqb args w
@[go_sem] theorem zrq3 (args : Array Value) (w : World) : (callFunc 275 args).run Tryz.prog w = (((ReflectliteType.abiMethod fun t => do pure (.int .u8 (<- Rtype.kind t))) args).run Tryz.prog w).andThen fun v w' => .ok (.value v) w' := run_callFunc_extern (e := (ReflectliteType.abiMethod fun t => do pure (.int .u8 (<- Rtype.kind t)))) Tryz.func275 zqb zqb zqb zqb args w
@[go_sem] theorem zrq8 (args : Array Value) (w : World) : (callFunc 289 args).run Tryz.prog w = (((ReflectliteType.method ReflectliteType.elem) args).run Tryz.prog w).andThen fun v w' => .ok (.value v) w' := run_callFunc_extern (e := (ReflectliteType.method ReflectliteType.elem)) Tryz.func289 zqb zqb zqb zqb args w
@[go_sem] theorem zrra (args : Array Value) (w : World) : (callFunc 290 args).run Tryz.prog w = (((ReflectliteType.relation "Implements" ReflectliteType.implements_) args).run Tryz.prog w).andThen fun v w' => .ok (.value v) w' := run_callFunc_extern (e := (ReflectliteType.relation "Implements" ReflectliteType.implements_)) Tryz.func290 zqb zqb zqb zqb args w
@[go_sem] theorem zrq2 (args : Array Value) (w : World) : (callFunc 93 args).run Tryz.prog w = ((ReflectliteType.typeOf args).run Tryz.prog w).andThen fun v w' => .ok (.value v) w' := run_callFunc_extern (e := ReflectliteType.typeOf) Tryz.func93 zqb zqb zqb zqb args w
@[go_sem] theorem zrq6 (args : Array Value) (w : World) : (callFunc 287 args).run Tryz.prog w = (((ReflectliteType.relation "AssignableTo" ReflectliteType.assignableTo) args).run Tryz.prog w).andThen fun v w' => .ok (.value v) w' := run_callFunc_extern (e := (ReflectliteType.relation "AssignableTo" ReflectliteType.assignableTo)) Tryz.func287 zqb zqb zqb zqb args w
@[go_sem] theorem zrq5 (args : Array Value) (w : World) : (callFunc 126 args).run Tryz.prog w = (((ReflectliteValue.method (ReflectliteValue.valueError "reflectlite.Value.Elem" 0) ReflectliteValue.elem) args).run Tryz.prog w).andThen fun v w' => .ok (.value v) w' := run_callFunc_extern (e := (ReflectliteValue.method (ReflectliteValue.valueError "reflectlite.Value.Elem" 0) ReflectliteValue.elem)) Tryz.func126 zqb zqb zqb zqb args w
@[go_sem] theorem zrrc (args : Array Value) (w : World) : (callFunc 127 args).run Tryz.prog w = ((ReflectliteValue.set args).run Tryz.prog w).andThen fun v w' => .ok (.value v) w' := run_callFunc_extern (e := ReflectliteValue.set) Tryz.func127 zqb zqb zqb zqb args w
@[go_sem] theorem zrqd (args : Array Value) (w : World) : (callFunc 288 args).run Tryz.prog w = (((ReflectliteType.method fun t => do Rtype.noPackHeld "Comparable" t; pure (.bool (<- typeInfo t).comparable)) args).run Tryz.prog w).andThen fun v w' => .ok (.value v) w' := run_callFunc_extern (e := (ReflectliteType.method fun t => do Rtype.noPackHeld "Comparable" t; pure (.bool (<- typeInfo t).comparable))) Tryz.func288 zqb zqb zqb zqb args w
theorem zrpu (x : Int) (n0 : Int) (tb a0 : Nat) (l : List ByteArray) (v : Value) (w : World) (hc : Chn w l (.iface 40 (.int .i64 x)) v) (ha : zqd w a0 = some (.cells #[.pointer (some ⟨tb, 0, none⟩)] 123)) (ht : zqd w tb = some (.cells #[.int .i64 n0] 40)) :
  Calls Tryz.prog 98 #[v, .iface 123 (.pointer (some ⟨tb, 0, none⟩)), .agg #[.pointer (some ⟨4, 123, none⟩), .pointer (some ⟨a0, 0, none⟩), .int .u64 150], .iface 210 (.agg #[.pointer (some ⟨4, 40, none⟩)])] w fun e w' => e = .returned (.bool true) /\ Below (w.setRow tb #[.int .i64 x]).heap.size (w.setRow tb #[.int .i64 x]) w' := by
 have hbr : Bare (.iface 40 (.int .i64 x)) := zqpe _
 go_enter Tryz.func98, Tryz.ntmps98
 go_wp2_with fail;have hc1 := hc.later (Grew.alloc (Grew.refl w) (.cells #[.pointer (some ⟨4, 123, none⟩), .pointer (some ⟨a0, 0, none⟩), .int .u64 150] 175));have fb : zqd (w.alloc (.cells #[.pointer (some ⟨4, 123, none⟩), .pointer (some ⟨a0, 0, none⟩), .int .u64 150] 175)) w.heap.size = some (.cells #[.pointer (some ⟨4, 123, none⟩), .pointer (some ⟨a0, 0, none⟩), .int .u64 150] 175) := zqg _ _ _ rfl;have ha1 := zqi (.cells #[.pointer (some ⟨4, 123, none⟩), .pointer (some ⟨a0, 0, none⟩), .int .u64 150] 175) ha;have ht1 := zqi (.cells #[.pointer (some ⟨4, 123, none⟩), .pointer (some ⟨a0, 0, none⟩), .int .u64 150] 175) ht;have lta := zqa ht
 have HE : Hid (∀ w1, w1 = w.alloc (.cells #[.pointer (some ⟨4, 123, none⟩), .pointer (some ⟨a0, 0, none⟩), .int .u64 150] 175) -> w1 = w.alloc (.cells #[.pointer (some ⟨4, 123, none⟩), .pointer (some ⟨a0, 0, none⟩), .int .u64 150] 175)) := fun _ h => h;obtain ⟨w1, hw1⟩ : ∃ w1, w1 = w.alloc (.cells #[.pointer (some ⟨4, 123, none⟩), .pointer (some ⟨a0, 0, none⟩), .int .u64 150] 175) := ⟨_, rfl⟩
 rw [<- hw1] at hc1 fb ha1 ht1 ⊢;clear hc ha ht;have lfb := zqa fb;have hHW : Hid (w1 = w.alloc (.cells #[.pointer (some ⟨4, 123, none⟩), .pointer (some ⟨a0, 0, none⟩), .int .u64 150] 175)) := hw1;clear hw1 HE
 go_loopw [0, 9, 10, 11, 12, 14, 15] (fun v _ _ _ _ _ _ wr => wr = w1 /\ ∃ l v0, v0 = v /\ Chn w1 l (.iface 40 (.int .i64 x)) v0) (fun v _ _ _ _ _ _ _ => deep w1 v)
 case atStart => exact ⟨rfl, l, _, rfl, hc1⟩
 case round =>
  obtain ⟨rfl, l, v0, rfl, hc⟩ := hrel
  cases l with
  | nil =>
   obtain rfl : v0 = _ := hc;have el := zq5u ⟨a0, 0, none⟩ ⟨tb, 0, none⟩ wr (by rw [zqgg, ha1]; exact zqbs _ _ _ _);have st := zro8 ⟨tb, 0, none⟩ ⟨wr.heap.size, 0, none⟩ x (.int .i64 n0) (wr.alloc (.cells #[.int .i64 x] 40)) (by rw [zqgg, zqg _ _ _ rfl]; exact zqbs _ _ _ _) (by rw [zqgg, zqi _ ht1]; exact zqbs _ _ _ _) (by rw [zqo3, zqi _ ht1]; exact zqh7 _ _ _);rw [setCell_eq_setRow _ tb 0 _ _ _ _ (zqi _ ht1)] at st;go_wp2;go_ret;exact ⟨rfl, by rw [zqdm _ _ _ _ (zqa ht1), hHW.out, zqdm _ _ _ _ lta]; exact Grew.alloc (Grew.alloc (Grew.refl _) _) _⟩
  | cons s l =>
   obtain ⟨g, u, rfl, hg, hcu⟩ := hc;have hd : deep wr u < deep wr (.iface 165 (.pointer (some ⟨g, 0, none⟩))) := by
    rw [zqp6 hbr hcu, zqp6 hbr (show Chn wr (s :: l) _ _ from ⟨g, u, rfl, hg, hcu⟩), List.length_cons]
    omega
   obtain ⟨tu, y, rfl⟩ : ∃ tu y, u = .iface tu y := by
    cases l with
    | nil => exact ⟨_, _, hcu⟩
    | cons s' l => obtain ⟨g', u', e, _⟩ := hcu; exact ⟨_, _, e⟩
   go_wp2_with (go_at_call 281; refine (zqtx g s _ _ hg).mono ?_; rintro e w' ⟨rfl, rfl⟩)
   go_roundw
   case rel => first | exact ⟨rfl, l, _, rfl, hcu⟩ | exact ⟨trivial, l, _, rfl, hcu⟩ | ((repeat' apply Exists.intro) <;> first | exact ⟨⟨trivial, l, _, rfl, hcu⟩, rfl⟩ | exact ⟨⟨rfl, l, _, rfl, hcu⟩, rfl⟩ | exact undef)
   case measure => exact hd
end Go.Proofs.YtnjghcnhcbobhaaGreatDoor
namespace Go.Proofs.YtnjghcnhcbobhaaGreatDoor
open Go.RowKit Go.Extern
theorem zroe (x n0 : Int) (l : List ByteArray) (v : Value) (tb : Nat) (w : World) (hE : EtAt w) (hc : Chn w l (.iface 40 (.int .i64 x)) v) (ht : zqd w tb = some (.cells #[.int .i64 n0] 40)) :
  Calls Tryz.prog 60 #[v, .iface 123 (.pointer (some ⟨tb, 0, none⟩))] w fun e w' => e = .returned (.bool true) /\ Below (w.setRow tb #[.int .i64 x]).heap.size (w.setRow tb #[.int .i64 x]) w' := by
 have HC : Hid (∀ (a0 : Nat) (w1 : World), Below w.heap.size w w1 -> zqd w1 a0 = some (.cells #[.pointer (some ⟨tb, 0, none⟩)] 123) -> zqd w1 tb = some (.cells #[.int .i64 n0] 40) -> Calls Tryz.prog 98 #[v, .iface 123 (.pointer (some ⟨tb, 0, none⟩)), .agg #[.pointer (some ⟨4, 123, none⟩), .pointer (some ⟨a0, 0, none⟩), .int .u64 150], .iface 210 (.agg #[.pointer (some ⟨4, 40, none⟩)])] w1 fun e w' => e = .returned (.bool true) /\ Below (w1.setRow tb #[.int .i64 x]).heap.size (w1.setRow tb #[.int .i64 x]) w') := fun a0 w1 hb ha ht => zrpu x n0 tb a0 l v w1 (hc.later hb) ha ht;obtain ⟨tE, fE, hE1⟩ := hE;have hE2 := zqi (.cells #[.pointer (some ⟨4, 123, none⟩), .pointer (some ⟨w.heap.size, 0, none⟩), .int .u64 150] 175) (zqi (.cells #[.pointer (some ⟨tb, 0, none⟩)] 123) hE1)
 have ht2 := zqi (.cells #[.pointer (some ⟨4, 123, none⟩), .pointer (some ⟨w.heap.size, 0, none⟩), .int .u64 150] 175) (zqi (.cells #[.pointer (some ⟨tb, 0, none⟩)] 123) ht);have ha2 : zqd ((w.alloc (.cells #[.pointer (some ⟨tb, 0, none⟩)] 123)).alloc (.cells #[.pointer (some ⟨4, 123, none⟩), .pointer (some ⟨w.heap.size, 0, none⟩), .int .u64 150] 175)) w.heap.size = some (.cells #[.pointer (some ⟨tb, 0, none⟩)] 123) := zqi _ (zqg _ _ _ rfl);have fb2 : zqd ((w.alloc (.cells #[.pointer (some ⟨tb, 0, none⟩)] 123)).alloc (.cells #[.pointer (some ⟨4, 123, none⟩), .pointer (some ⟨w.heap.size, 0, none⟩), .int .u64 150] 175)) (w.heap.size + 1) = some (.cells #[.pointer (some ⟨4, 123, none⟩), .pointer (some ⟨w.heap.size, 0, none⟩), .int .u64 150] 175) := zqg _ _ _ (by simp);have lta := zqa ht;have lE := zqa hE1
 have hb2 : Below w.heap.size w ((w.alloc (.cells #[.pointer (some ⟨tb, 0, none⟩)] 123)).alloc (.cells #[.pointer (some ⟨4, 123, none⟩), .pointer (some ⟨w.heap.size, 0, none⟩), .int .u64 150] 175)) := Grew.alloc (Grew.alloc (Grew.refl w) _) _;have n8 := zq6v ⟨w.heap.size, 0, none⟩ ⟨tb, 0, none⟩ ((w.alloc (.cells #[.pointer (some ⟨tb, 0, none⟩)] 123)).alloc (.cells #[.pointer (some ⟨4, 123, none⟩), .pointer (some ⟨w.heap.size, 0, none⟩), .int .u64 150] 175)) (by rw [zqgg, ha2]; exact zqbs _ _ _ _);clear hE1;obtain ⟨tv, yv, rfl⟩ : ∃ t y, v = .iface t y := by
  cases l with
  | nil => exact ⟨_, _, hc⟩
  | cons s' l => obtain ⟨g', u', e, _⟩ := hc; exact ⟨_, _, e⟩
 clear hc
 go_enter Tryz.func60, Tryz.ntmps60
 go_wp2_with fail;refine (HC.out _ _ hb2 ha2 ht2).mono ?_
 rintro e w' ⟨rfl, hb⟩;go_wp2;go_ret;exact ⟨rfl, by rw [zqdm _ _ _ _ (by simp; omega), zqdm _ _ _ _ lta] at hb; exact Grew.trans (Grew.alloc (Grew.alloc (Grew.refl _) _) _) hb⟩
end Go.Proofs.YtnjghcnhcbobhaaGreatDoor
namespace Go.Proofs.YtnjghcnhcbobhaaGreatDoor
open Go.RowKit Go.Extern
@[go_sem] theorem zq6h (w : World) : ((ReflectliteType.method fun t => do Rtype.noPackHeld "Comparable" t; (fun a => Value.bool a.comparable) <$> typeInfo t) #[.agg #[.pointer (some ⟨4, 40, none⟩)]]).run Tryz.prog w = .ok (.bool true) w := by kernel_rfl
@[go_sem] theorem zrqx (a b : Value) (w : World) : (binOp .eql 29 (.iface 165 a) (.iface 40 b)).run Tryz.prog w = .ok (.bool false) w := run_eql_iface_types _ _ _ _ Tryz.underlying29 (by decide) w
@[go_sem] theorem zrqr (a b : Int) (w : World) : (binOp .eql 29 (.iface 40 (.int .i64 a)) (.iface 40 (.int .i64 b))).run Tryz.prog w = .ok (.bool (decide (a = b))) w := by
 have e1 : Tryz.prog.underlying 40 = _ := Tryz.underlying40;have e2 : Tryz.prog.underlying 29 = _ := Tryz.underlying29;obtain ⟨i, hi, hc⟩ : ∃ i, Tryz.prog.info? 40 = some i /\ i.comparable = true := ⟨(Tryz.prog.info? 40).get zqb, by kernel_rfl, by kernel_rfl⟩
 have h : ∀ d : Nat, (Op.equalIn (d + 2) 29 (.iface 40 (.int .i64 a)) (.iface 40 (.int .i64 b))).run Tryz.prog w = .ok (decide (a = b)) w := fun d => by
  simp [Op.equalIn, run_underlying e1, run_underlying e2, typeInfo, hi, hc]
  by_cases hab : a = b <;> simp [hab]
 simp only [binOp]
 simp [Op.equal, Op.maxDepth, h 9998]
theorem wrap_any (s : ByteArray) (t : TypeId) (y : Value) (w : World) : Calls Tryz.prog 53 #[.string s, .iface t y] w fun e w' => e = .returned (.iface 165 (.pointer (some ⟨w.heap.size, 0, none⟩))) /\ w' = w.alloc (.cells #[.string s, .iface t y] 167) := by
 go_enter Tryz.func53, Tryz.ntmps53
 go_wp2;go_ret;exact ⟨rfl, rfl⟩
theorem zrlj (x : Int) (l : List ByteArray) (v : Value) (w : World) (hE : EtAt w) (hc : Chn w l (.iface 40 (.int .i64 x)) v) :
  Calls Tryz.prog 19 #[v] w (Rt w (.int .i64 (x))) := by
 have C := zroe x 0 l v _ _ (hE.later (Grew.alloc (Grew.refl w) _)) (hc.later (Grew.alloc (Grew.refl w) _)) (zqg _ _ _ rfl);have hb : Below w.heap.size w (w.alloc (.cells #[.int .i64 0] 40)) := Grew.alloc (Grew.refl w) _
 go_enter Tryz.func19, Tryz.ntmps19
 go_wp2_with fail;refine C.mono ?_
 rintro e w' ⟨rfl, hb1⟩;rw [zqm3 _ _ _ _ _ rfl] at hb1;have ft := zqc hb1 (zqg w (.cells #[.int .i64 x] 40) _ rfl);have lft := zqa ft;go_wp2;go_ret;exact ⟨rfl, Grew.trans (Grew.alloc (Grew.refl w) _) hb1⟩
end Go.Proofs.YtnjghcnhcbobhaaGreatDoor
namespace Go.Proofs.YtnjghcnhcbobhaaGreatDoor
open Go.ChangeShapes Go.WideShapes Go.ChangeAt Go.RowKit
theorem zqwb {W : World} (h : laidMetH Tryz.prog [("errors.errorType", Rows.laid_errors_errorType), ("sapwood/sha.square", Rows.laid_sapwood_sha_square), ("sapwood/sha.cube", Rows.laid_sapwood_sha_cube)] W) : Tabs W /\ EtAt W := by
 refine ⟨zqrh (laidMetH.filter (fun x => x.1 != "errors.errorType") h), ?_⟩;have h2 : ∃ name u ty, Rows.laid_errors_errorType.handleName? (H := Unit) = some name /\ (Tryz.prog.cutTypes.find? (·.1 == "internal/reflectlite.rtype")).map (·.2) = some u /\ ty < Tryz.prog.types.size /\ Tryz.prog.rowNamed ty name = true /\ W.var? Tryz.prog "errors.errorType" = some #[.iface u (.agg #[typeHandle Tryz.prog ty])] :=
  (laidMetH_iff.1 h).2 ("errors.errorType", Rows.laid_errors_errorType) (List.mem_filter.2 ⟨List.mem_cons_self .., rfl⟩)
 obtain ⟨name, u, ty, e1, e2, e3, e4, e5⟩ := h2;have en : name = [101, 114, 114, 111, 114] := (Option.some.inj e1).symm;subst en;have rt : (Tryz.prog.cutTypes.find? (·.1 == "internal/reflectlite.rtype")).map (·.2) = some 210 := by kernel_rfl
 obtain rfl := Option.some.inj (rt.symm.trans e2);have one : ((List.range Tryz.prog.types.size).filter fun t => Tryz.prog.rowNamed t [101, 114, 114, 111, 114]) = [29] := by kernel_rfl
 have hm : ty ∈ (List.range Tryz.prog.types.size).filter fun t => Tryz.prog.rowNamed t [101, 114, 114, 111, 114] := List.mem_filter.2 ⟨List.mem_range.2 e3, e4⟩;rw [one] at hm;obtain rfl := List.mem_singleton.1 hm;have hh : typeHandle Tryz.prog 29 = .pointer (some ⟨4, 29, none⟩) := by kernel_rfl
 rw [hh] at e5;have G0 : Tryz.prog.globalNamed "errors.errorType" = some 0 := by kernel_rfl
 unfold World.var? at e5;rw [G0] at e5
 simp only [Option.bind_some] at e5
 split at e5
 ·rename_i c t fr hx
  obtain rfl := Option.some.inj e5;exact ⟨t, fr, hx⟩
 ·cases e5
noncomputable def hw0 (os : Os) : World :=
 let w0 := World.holding Tryz.prog os ⟨#[], #[], []⟩
 { w0 with heap := w0.heap.modify 0 fun
   | .cells _ t frozen => .cells #[.iface 210 (.agg #[.pointer (some ⟨4, 29, none⟩)])] t frozen
   | o => o }
noncomputable def hwL (os : Os) : World := (hw0 os).layVars Tryz.prog [("sapwood/sha.square", Rows.laid_sapwood_sha_square), ("sapwood/sha.cube", Rows.laid_sapwood_sha_cube)]
theorem zq94 (os : Os) : (hwL os).os = os := World.layVars_os _ _ _
theorem zq4h (os : Os) (args : Array Value) : laidMetH Tryz.prog [("errors.errorType", Rows.laid_errors_errorType), ("sapwood/sha.square", Rows.laid_sapwood_sha_square), ("sapwood/sha.cube", Rows.laid_sapwood_sha_cube)] ((hwL os).forCall (fun _ _ => 0) ⟨#[], args, []⟩).memory := by
 have h0 : laidMet Tryz.prog [("sapwood/sha.square", Rows.laid_sapwood_sha_square), ("sapwood/sha.cube", Rows.laid_sapwood_sha_cube)] (hwL os) :=
  laidMet_layVars (w0 := hw0 os) ["sapwood/sha.square", "sapwood/sha.cube"] [] rfl zqb zqb (by exact LaidIn.none)
 refine laidMetH_of_parts ?_ zqb
 exact h0.of_heap (by simp [World.memory, World.forCall, Input.heap])
end Go.Proofs.YtnjghcnhcbobhaaGreatDoor
