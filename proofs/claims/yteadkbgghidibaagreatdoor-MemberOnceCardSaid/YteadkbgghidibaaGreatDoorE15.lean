/- E15 -/
import Derived.Test.YteadkbgghidibaaGreatDoorMem
import Derived.WalkKit
import Derived.LaidEql
import Derived.Stop.Asserts
import Derived.RowKitTokens
import Derived.Test.YteadkbgghidibaaGreatDoorQ12
import Derived.Stop.Joined
import Derived.Test.YteadkbgghidibaaGreatDoorOw
import Derived.LaidHandle
import Derived.LaidSub
set_option maxRecDepth 100000
set_option maxHeartbeats 4000000
namespace Go.Proofs.YteadkbgghidibaaGreatDoor
open Go.RowKit Go.Extern
set_option linter.unusedVariables false
set_option linter.unusedSimpArgs false
@[go_sem] theorem rm_Kind (f : Nat) (h : Value) (w : World) : (Go.method (f + 1) 163 (.agg #[h]) "Kind").run Tryz.prog w = .ok (303, h) w := by kernel_rfl
@[go_sem] theorem rm_Elem (f : Nat) (h : Value) (w : World) : (Go.method (f + 1) 163 (.agg #[h]) "Elem").run Tryz.prog w = .ok (312, .agg #[h]) w := by kernel_rfl
@[go_sem] theorem rm_Implements (f : Nat) (h : Value) (w : World) : (Go.method (f + 1) 163 (.agg #[h]) "Implements").run Tryz.prog w = .ok (313, .agg #[h]) w := by kernel_rfl
@[go_sem] theorem rm_AssignableTo (f : Nat) (h : Value) (w : World) : (Go.method (f + 1) 163 (.agg #[h]) "AssignableTo").run Tryz.prog w = .ok (310, .agg #[h]) w := by kernel_rfl
@[go_sem] theorem rm_Comparable (f : Nat) (h : Value) (w : World) : (Go.method (f + 1) 163 (.agg #[h]) "Comparable").run Tryz.prog w = .ok (311, .agg #[h]) w := by kernel_rfl
@[go_sem] theorem em_Error (f : Nat) (v : Value) (w : World) : (Go.method (f + 1) 39 v "Error").run Tryz.prog w = .ok (306, v) w := by kernel_rfl
@[go_sem] theorem fm_Error (f : Nat) (v : Value) (w : World) : (Go.method (f + 1) 77 v "Error").run Tryz.prog w = .ok (307, v) w := by kernel_rfl
@[go_sem] theorem fm_Unwrap (f : Nat) (v : Value) (w : World) : (Go.method (f + 1) 77 v "Unwrap").run Tryz.prog w = .ok (308, v) w := by kernel_rfl
@[go_sem] theorem ta_as_e (v : Value) (xT : TypeId) (w : World) : (Instr.typeAssert (.iface 39 v) xT 327 true).run Tryz.prog w = .ok (.tuple #[.nilIface, .bool false]) w := run_typeAssert_lacksB Tryz.underlying327 (by kernel_rfl) (by kernel_rfl) v xT w
@[go_sem] theorem ta_as_f (v : Value) (xT : TypeId) (w : World) : (Instr.typeAssert (.iface 77 v) xT 327 true).run Tryz.prog w = .ok (.tuple #[.nilIface, .bool false]) w := run_typeAssert_lacksB Tryz.underlying327 (by kernel_rfl) (by kernel_rfl) v xT w
@[go_sem] theorem ta_un_e (v : Value) (xT : TypeId) (w : World) : (Instr.typeAssert (.iface 39 v) xT 168 true).run Tryz.prog w = .ok (.tuple #[.nilIface, .bool false]) w := run_typeAssert_lacksB Tryz.underlying168 (by kernel_rfl) (by kernel_rfl) v xT w
@[go_sem] theorem ta_un_f (v : Value) (xT : TypeId) (w : World) : (Instr.typeAssert (.iface 77 v) xT 168 true).run Tryz.prog w = .ok (.tuple #[.iface 77 v, .bool true]) w := run_typeAssert_hasB Tryz.underlying168 (by kernel_rfl) v xT w
@[go_sem] theorem ta_us_e (v : Value) (xT : TypeId) (w : World) : (Instr.typeAssert (.iface 39 v) xT 169 true).run Tryz.prog w = .ok (.tuple #[.nilIface, .bool false]) w := run_typeAssert_lacksB Tryz.underlying169 (by kernel_rfl) (by kernel_rfl) v xT w
@[go_sem] theorem ta_us_f (v : Value) (xT : TypeId) (w : World) : (Instr.typeAssert (.iface 77 v) xT 169 true).run Tryz.prog w = .ok (.tuple #[.nilIface, .bool false]) w := run_typeAssert_lacksB Tryz.underlying169 (by kernel_rfl) (by kernel_rfl) v xT w
@[go_sem] theorem ta_is_e (v : Value) (xT : TypeId) (w : World) : (Instr.typeAssert (.iface 39 v) xT 165 true).run Tryz.prog w = .ok (.tuple #[.nilIface, .bool false]) w := run_typeAssert_lacksB Tryz.underlying165 (by kernel_rfl) (by kernel_rfl) v xT w
@[go_sem] theorem ta_is_f (v : Value) (xT : TypeId) (w : World) : (Instr.typeAssert (.iface 77 v) xT 165 true).run Tryz.prog w = .ok (.tuple #[.nilIface, .bool false]) w := run_typeAssert_lacksB Tryz.underlying165 (by kernel_rfl) (by kernel_rfl) v xT w
@[go_sem] theorem ta_ff (v : Value) (xT : TypeId) (w : World) : (Instr.typeAssert (.iface 77 v) xT 77 true).run Tryz.prog w = .ok (.tuple #[v, .bool true]) w := by kernel_rfl
@[go_sem] theorem ta_fe (v : Value) (xT : TypeId) (w : World) : (Instr.typeAssert (.iface 39 v) xT 77 true).run Tryz.prog w = .ok (.tuple #[.pointer none, .bool false]) w := by kernel_rfl
@[go_sem] theorem tyof_e (v : Value) (w : World) : (ReflectliteType.typeOf #[.iface 39 v]).run Tryz.prog w = .ok (.iface 163 (.agg #[.pointer (some ⟨4, 39, none⟩)])) w := by kernel_rfl
@[go_sem] theorem asg_e_e (w : World) : (ReflectliteType.relation "AssignableTo" ReflectliteType.assignableTo #[.agg #[.pointer (some ⟨4, 39, none⟩)], .iface 163 (.agg #[.pointer (some ⟨4, 39, none⟩)])]).run Tryz.prog w = .ok (.bool true) w := by kernel_rfl
@[go_sem] theorem asg_e_f (w : World) : (ReflectliteType.relation "AssignableTo" ReflectliteType.assignableTo #[.agg #[.pointer (some ⟨4, 39, none⟩)], .iface 163 (.agg #[.pointer (some ⟨4, 77, none⟩)])]).run Tryz.prog w = .ok (.bool false) w := by kernel_rfl
@[go_sem] theorem tyof_f (v : Value) (w : World) : (ReflectliteType.typeOf #[.iface 77 v]).run Tryz.prog w = .ok (.iface 163 (.agg #[.pointer (some ⟨4, 77, none⟩)])) w := by kernel_rfl
@[go_sem] theorem asg_f_e (w : World) : (ReflectliteType.relation "AssignableTo" ReflectliteType.assignableTo #[.agg #[.pointer (some ⟨4, 77, none⟩)], .iface 163 (.agg #[.pointer (some ⟨4, 39, none⟩)])]).run Tryz.prog w = .ok (.bool false) w := by kernel_rfl
@[go_sem] theorem asg_f_f (w : World) : (ReflectliteType.relation "AssignableTo" ReflectliteType.assignableTo #[.agg #[.pointer (some ⟨4, 77, none⟩)], .iface 163 (.agg #[.pointer (some ⟨4, 77, none⟩)])]).run Tryz.prog w = .ok (.bool true) w := by kernel_rfl
@[go_sem] theorem comparable_e (w : World) : ((ReflectliteType.method fun t => do Rtype.noPackHeld "Comparable" t; (fun a => Value.bool a.comparable) <$> typeInfo t) #[.agg #[.pointer (some ⟨4, 39, none⟩)]]).run Tryz.prog w = .ok (.bool true) w := by kernel_rfl
@[go_sem] theorem kind_pe (w : World) : ((ReflectliteType.abiMethod fun t => (fun a : Nat => Value.int IntKind.u8 (a : Int)) <$> Rtype.kind t) #[.pointer (some ⟨4, 314, none⟩)]).run Tryz.prog w = .ok (.int .u8 22) w := by kernel_rfl
@[go_sem] theorem kind_e (w : World) : ((ReflectliteType.abiMethod fun t => (fun a : Nat => Value.int IntKind.u8 (a : Int)) <$> Rtype.kind t) #[.pointer (some ⟨4, 39, none⟩)]).run Tryz.prog w = .ok (.int .u8 2) w := by kernel_rfl
@[go_sem] theorem kind_f (w : World) : ((ReflectliteType.abiMethod fun t => (fun a : Nat => Value.int IntKind.u8 (a : Int)) <$> Rtype.kind t) #[.pointer (some ⟨4, 77, none⟩)]).run Tryz.prog w = .ok (.int .u8 22) w := by kernel_rfl
@[go_sem] theorem vof_e (n : Int) (w : World) : (ReflectliteValue.unpack (.iface 39 (.int .i64 n))).run Tryz.prog w = .ok (.agg #[.pointer (some ⟨4, 39, none⟩), .pointer (some ⟨w.heap.size, 0, none⟩), .int .u64 130]) (w.alloc (.cells #[.int .i64 n] 39)) := by kernel_rfl
theorem rlm (z : Sem Value) (f : TypeId → Addr → Nat → Nat → Sem Value) (v : Value) :
  ReflectliteValue.method z f #[v] = (do match ← ReflectliteValue.parts v with | none => z | some (t, a, fl) => f t a fl (fl % 32)) := rfl
theorem rls (v x : Value) : ReflectliteValue.set #[v, x] = (do
  let (some (dst, a, fl), some (src, b, _)) := (← ReflectliteValue.parts v, ← ReflectliteValue.parts x)
   | unsupported (.noEntry "extern/(internal/reflectlite.Value).Set.zeroValue")
  if fl / ReflectliteValue.flagAddr % 2 == 0 then unsupported (.noEntry "extern/(internal/reflectlite.Value).Set.unaddressable")
  let val ← loadVar src b
  if ← Rtype.directlyAssignable dst src then storeVar dst a val
  else if ← Rtype.implements dst src then
   if (← Rtype.kind src) == 20 then
    match val with
    | .nilIface => unsupported (.noEntry "extern/reflectlite: a nil value of one interface type handed on as a value of another")
    | _ => storeVar dst a val
   else storeVar dst a (.iface src val)
  else panicString ("reflectlite.Set: value of type " ++ (← Rtype.spelt src) ++ " is not assignable to type " ++ (← Rtype.spelt dst))
  pure (.tuple #[])) := rfl
@[go_sem] theorem vof_pe (t : Addr) (w : World) : (ReflectliteValue.unpack (.iface 314 (.pointer (some t)))).run Tryz.prog w = .ok (.agg #[.pointer (some ⟨4, 314, none⟩), .pointer (some ⟨w.heap.size, 0, none⟩), .int .u64 150]) (w.alloc (.cells #[.pointer (some t)] 314)) := by kernel_rfl
@[go_sem] theorem vty_pe (a : Addr) (w : World) : (ReflectliteValue.methodAny (ReflectliteValue.valueError "reflectlite.Value.Type" 0) (fun t _ _ _ => ReflectliteType.toType t) #[.agg #[.pointer (some ⟨4, 314, none⟩), .pointer (some a), .int .u64 150]]).run Tryz.prog w = .ok (.iface 163 (.agg #[.pointer (some ⟨4, 314, none⟩)])) w := by kernel_rfl
@[go_sem] theorem elem_pe (w : World) : (ReflectliteType.method ReflectliteType.elem #[.agg #[.pointer (some ⟨4, 314, none⟩)]]).run Tryz.prog w = .ok (.iface 163 (.agg #[.pointer (some ⟨4, 39, none⟩)])) w := by kernel_rfl
@[go_sem] theorem impl_e (w : World) : (ReflectliteType.relation "Implements" ReflectliteType.implements_ #[.agg #[.pointer (some ⟨4, 39, none⟩)], .iface 163 (.agg #[.pointer (some ⟨4, 32, none⟩)])]).run Tryz.prog w = .ok (.bool true) w := by kernel_rfl
theorem parts_pe (a : Addr) (w : World) : (ReflectliteValue.parts (.agg #[.pointer (some ⟨4, 314, none⟩), .pointer (some a), .int .u64 150])).run Tryz.prog w = .ok (some (314, a, 150)) w := by kernel_rfl
theorem partsA_e (a : Addr) (w : World) : (ReflectliteValue.parts (.agg #[.pointer (some ⟨4, 39, none⟩), .pointer (some a), .int .u64 386])).run Tryz.prog w = .ok (some (39, a, 386)) w := by kernel_rfl
theorem parts_e (a : Addr) (w : World) : (ReflectliteValue.parts (.agg #[.pointer (some ⟨4, 39, none⟩), .pointer (some a), .int .u64 130])).run Tryz.prog w = .ok (some (39, a, 130)) w := by kernel_rfl
theorem elemOf_pe (w : World) : (Rtype.elem? 314).run Tryz.prog w = .ok (some 39) w := by kernel_rfl
theorem mk_e (p : Addr) (w : World) : (ReflectliteValue.mk 39 p ReflectliteValue.flagAddr).run Tryz.prog w = .ok (.agg #[.pointer (some ⟨4, 39, none⟩), .pointer (some p), .int .u64 386]) w := by kernel_rfl
theorem direct_e (w : World) : (Rtype.directlyAssignable 39 39).run Tryz.prog w = .ok true w := by kernel_rfl
theorem isNil_pe (a p : Addr) (W : World) (ha : W.cell? a = some (.pointer (some p))) : (ReflectliteValue.method (ReflectliteValue.valueError "reflectlite.Value.IsNil" 0) ReflectliteValue.isNil #[.agg #[.pointer (some ⟨4, 314, none⟩), .pointer (some a), .int .u64 150]]).run Tryz.prog W = .ok (.bool false) W := by
 rw [rlm]
 simp only [Sem.run_bind, parts_pe, Result.andThen]
 simp [ReflectliteValue.isNil, loadVar, isAgg, underlying, Tryz.underlying314, ha, Result.andThen]
theorem elemV_pe (a p : Addr) (W : World) (ha : W.cell? a = some (.pointer (some p))) : (ReflectliteValue.method (ReflectliteValue.valueError "reflectlite.Value.Elem" 0) ReflectliteValue.elem #[.agg #[.pointer (some ⟨4, 314, none⟩), .pointer (some a), .int .u64 150]]).run Tryz.prog W = .ok (.agg #[.pointer (some ⟨4, 39, none⟩), .pointer (some p), .int .u64 386]) W := by
 rw [rlm]
 simp only [Sem.run_bind, parts_pe, Result.andThen]
 simp [ReflectliteValue.elem, loadVar, isAgg, underlying, Tryz.underlying314, ha, Result.andThen, elemOf_pe, mk_e]
theorem set_e (ta b : Addr) (n : Int) (old : Value) (W : World) (hb : W.cell? b = some (.int .i64 n)) (ht : W.cell? ta = some old) (hf : W.frozen? ta = false) : (ReflectliteValue.set #[.agg #[.pointer (some ⟨4, 39, none⟩), .pointer (some ta), .int .u64 386], .agg #[.pointer (some ⟨4, 39, none⟩), .pointer (some b), .int .u64 130]]).run Tryz.prog W = .ok (.tuple #[]) (W.setCell ta (.int .i64 n)) := by
 rw [rls]
 simp only [Sem.run_bind, partsA_e, parts_e, Result.andThen]
 simp [ReflectliteValue.flagAddr, loadVar, isAgg, underlying, Tryz.underlying39, hb, Result.andThen, direct_e, storeVar, Value.cells, storeCells, Addr.add]
 rw [run_store Tryz.prog W ta _ _ (by rfl)]
 simp [ht, hf]
@[go_sem] theorem vof_f (t : Option Addr) (w : World) : (ReflectliteValue.unpack (.iface 77 (.pointer t))).run Tryz.prog w = .ok (.agg #[.pointer (some ⟨4, 77, none⟩), .pointer (some ⟨w.heap.size, 0, none⟩), .int .u64 150]) (w.alloc (.cells #[.pointer t] 77)) := by kernel_rfl
@[go_sem] theorem impl_f (w : World) : (ReflectliteType.relation "Implements" ReflectliteType.implements_ #[.agg #[.pointer (some ⟨4, 77, none⟩)], .iface 163 (.agg #[.pointer (some ⟨4, 32, none⟩)])]).run Tryz.prog w = .ok (.bool true) w := by kernel_rfl
end Go.Proofs.YteadkbgghidibaaGreatDoor
namespace Go.Proofs.YteadkbgghidibaaGreatDoor
open Go.RowKit Go.Extern
set_option linter.unusedVariables false
set_option linter.unusedSimpArgs false
def Chn (w : World) : List ByteArray → Value → Value → Prop
 | [], b, v => v = b
 | s :: l, b, v => ∃ g u, v = .iface 77 (.pointer (some ⟨g, 0, none⟩)) ∧ objAt w g = some (.cells #[.string s, u] 79) ∧ Chn w l b u
theorem Chn.later {w w' : World} (hb : Below w.heap.size w w') : ∀ {l : List ByteArray} {b v : Value}, Chn w l b v → Chn w' l b v
 | [], _, _, h => h
 | _ :: l, _, _, ⟨g, u, e, h, hc⟩ => ⟨g, u, e, keep_below hb h, hc.later hb⟩
def Bare (b : Value) : Prop := ∀ x, b ≠ .iface 77 x
theorem chn_one {w : World} {b b' v : Value} (hb : Bare b) (hb' : Bare b') : ∀ {l l' : List ByteArray}, Chn w l b v → Chn w l' b' v → l.length = l'.length
 | [], [], _, _ => rfl
 | [], _ :: _, h, ⟨g, u, e, _⟩ => absurd (h.symm.trans e) (hb _)
 | _ :: _, [], ⟨g, u, e, _⟩, h => absurd (h.symm.trans e) (hb' _)
 | _ :: l, _ :: l', ⟨g, u, e, h, hc⟩, ⟨g', u', e', h', hc'⟩ => by
  rw [e] at e'
  cases e'
  rw [h] at h'
  injection h' with h'
  injection h' with h'
  obtain ⟨_, rfl⟩ : _ ∧ u = u' := by simpa using h'
  rw [List.length_cons, List.length_cons, chn_one hb hb' hc hc']
noncomputable def deep (w : World) (v : Value) : Nat := by
 classical exact if h : ∃ l b, Bare b ∧ Chn w l b v then h.choose.length else 0
theorem deep_eq {w : World} {l : List ByteArray} {b v : Value} (hb : Bare b) (h : Chn w l b v) : deep w v = l.length := by
 have hx : ∃ l b, Bare b ∧ Chn w l b v := ⟨l, b, hb, h⟩
 unfold deep
 rw [dif_pos hx]
 obtain ⟨b', h1, h2⟩ := hx.choose_spec
 exact chn_one h1 hb h2 h
theorem bare_errno (n : Value) : Bare (.iface 39 n) := fun x h => by injection h with h; exact absurd h (by decide)
def EtAt (w : World) : Prop := ∃ t fr, objAt w 3 = some (.cells #[.iface 163 (.agg #[.pointer (some ⟨4, 32, none⟩)])] t fr)
theorem EtAt.later {w w' : World} (h : EtAt w) (hb : Below w.heap.size w w') : EtAt w' := by
 obtain ⟨t, fr, h⟩ := h
 exact ⟨t, fr, keep_below hb h⟩
theorem funwrap_any (g : Nat) (s : ByteArray) (u : Value) (w : World) (h : objAt w g = some (.cells #[.string s, u] 79)) :
  Calls Tryz.prog 308 #[.pointer (some ⟨g, 0, none⟩)] w fun e w' => e = .returned u ∧ w' = w := by
 go_enter Tryz.func308, Tryz.ntmps308
 go_wp2
 go_ret
 exact ⟨rfl, rfl⟩
@[go_sem] theorem rex_0 (args : Array Value) (w : World) : (callFunc 253 args).run Tryz.prog w = (((fun args => ReflectliteValue.unpack (args.getD 0 (.tuple #[]))) args).run Tryz.prog w).andThen fun v w' => .ok (.value v) w' := run_callFunc_extern (e := (fun args => ReflectliteValue.unpack (args.getD 0 (.tuple #[])))) Tryz.func253 (by kernel_rfl) (by kernel_rfl) (by kernel_rfl) (by kernel_rfl) args w
@[go_sem] theorem rex_1 (args : Array Value) (w : World) : (callFunc 254 args).run Tryz.prog w = (((ReflectliteValue.methodAny (ReflectliteValue.valueError "reflectlite.Value.Type" 0) (fun t _ _ _ => ReflectliteType.toType t)) args).run Tryz.prog w).andThen fun v w' => .ok (.value v) w' := run_callFunc_extern (e := (ReflectliteValue.methodAny (ReflectliteValue.valueError "reflectlite.Value.Type" 0) (fun t _ _ _ => ReflectliteType.toType t))) Tryz.func254 (by kernel_rfl) (by kernel_rfl) (by kernel_rfl) (by kernel_rfl) args w
@[go_sem] theorem rex_2 (args : Array Value) (w : World) : (callFunc 255 args).run Tryz.prog w = (((ReflectliteValue.method (ReflectliteValue.valueError "reflectlite.Value.IsNil" 0) ReflectliteValue.isNil) args).run Tryz.prog w).andThen fun v w' => .ok (.value v) w' := run_callFunc_extern (e := (ReflectliteValue.method (ReflectliteValue.valueError "reflectlite.Value.IsNil" 0) ReflectliteValue.isNil)) Tryz.func255 (by kernel_rfl) (by kernel_rfl) (by kernel_rfl) (by kernel_rfl) args w
@[go_sem] theorem rex_3 (args : Array Value) (w : World) : (callFunc 303 args).run Tryz.prog w = (((ReflectliteType.abiMethod fun t => do pure (.int .u8 (← Rtype.kind t))) args).run Tryz.prog w).andThen fun v w' => .ok (.value v) w' := run_callFunc_extern (e := (ReflectliteType.abiMethod fun t => do pure (.int .u8 (← Rtype.kind t)))) Tryz.func303 (by kernel_rfl) (by kernel_rfl) (by kernel_rfl) (by kernel_rfl) args w
@[go_sem] theorem rex_4 (args : Array Value) (w : World) : (callFunc 312 args).run Tryz.prog w = (((ReflectliteType.method ReflectliteType.elem) args).run Tryz.prog w).andThen fun v w' => .ok (.value v) w' := run_callFunc_extern (e := (ReflectliteType.method ReflectliteType.elem)) Tryz.func312 (by kernel_rfl) (by kernel_rfl) (by kernel_rfl) (by kernel_rfl) args w
@[go_sem] theorem rex_5 (args : Array Value) (w : World) : (callFunc 313 args).run Tryz.prog w = (((ReflectliteType.relation "Implements" ReflectliteType.implements_) args).run Tryz.prog w).andThen fun v w' => .ok (.value v) w' := run_callFunc_extern (e := (ReflectliteType.relation "Implements" ReflectliteType.implements_)) Tryz.func313 (by kernel_rfl) (by kernel_rfl) (by kernel_rfl) (by kernel_rfl) args w
@[go_sem] theorem rex_6 (args : Array Value) (w : World) : (callFunc 58 args).run Tryz.prog w = ((ReflectliteType.typeOf args).run Tryz.prog w).andThen fun v w' => .ok (.value v) w' := run_callFunc_extern (e := ReflectliteType.typeOf) Tryz.func58 (by kernel_rfl) (by kernel_rfl) (by kernel_rfl) (by kernel_rfl) args w
@[go_sem] theorem rex_7 (args : Array Value) (w : World) : (callFunc 310 args).run Tryz.prog w = (((ReflectliteType.relation "AssignableTo" ReflectliteType.assignableTo) args).run Tryz.prog w).andThen fun v w' => .ok (.value v) w' := run_callFunc_extern (e := (ReflectliteType.relation "AssignableTo" ReflectliteType.assignableTo)) Tryz.func310 (by kernel_rfl) (by kernel_rfl) (by kernel_rfl) (by kernel_rfl) args w
@[go_sem] theorem rex_8 (args : Array Value) (w : World) : (callFunc 258 args).run Tryz.prog w = (((ReflectliteValue.method (ReflectliteValue.valueError "reflectlite.Value.Elem" 0) ReflectliteValue.elem) args).run Tryz.prog w).andThen fun v w' => .ok (.value v) w' := run_callFunc_extern (e := (ReflectliteValue.method (ReflectliteValue.valueError "reflectlite.Value.Elem" 0) ReflectliteValue.elem)) Tryz.func258 (by kernel_rfl) (by kernel_rfl) (by kernel_rfl) (by kernel_rfl) args w
@[go_sem] theorem rex_9 (args : Array Value) (w : World) : (callFunc 259 args).run Tryz.prog w = ((ReflectliteValue.set args).run Tryz.prog w).andThen fun v w' => .ok (.value v) w' := run_callFunc_extern (e := ReflectliteValue.set) Tryz.func259 (by kernel_rfl) (by kernel_rfl) (by kernel_rfl) (by kernel_rfl) args w
@[go_sem] theorem rex_10 (args : Array Value) (w : World) : (callFunc 311 args).run Tryz.prog w = (((ReflectliteType.method fun t => do Rtype.noPackHeld "Comparable" t; pure (.bool (← typeInfo t).comparable)) args).run Tryz.prog w).andThen fun v w' => .ok (.value v) w' := run_callFunc_extern (e := (ReflectliteType.method fun t => do Rtype.noPackHeld "Comparable" t; pure (.bool (← typeInfo t).comparable))) Tryz.func311 (by kernel_rfl) (by kernel_rfl) (by kernel_rfl) (by kernel_rfl) args w
theorem as_ee (x : Int) (n0 : Int) (tb a0 : Nat) (l : List ByteArray) (v : Value) (w : World) (hc : Chn w l (.iface 39 (.int .i64 x)) v) (ha : objAt w a0 = some (.cells #[.pointer (some ⟨tb, 0, none⟩)] 314)) (ht : objAt w tb = some (.cells #[.int .i64 n0] 39)) :
  Calls Tryz.prog 256 #[v, .iface 314 (.pointer (some ⟨tb, 0, none⟩)), .agg #[.pointer (some ⟨4, 314, none⟩), .pointer (some ⟨a0, 0, none⟩), .int .u64 150], .iface 163 (.agg #[.pointer (some ⟨4, 39, none⟩)])] w fun e w' => e = .returned (.bool true) ∧ Below (w.setRow tb #[.int .i64 x]).heap.size (w.setRow tb #[.int .i64 x]) w' := by
 have hbr : Bare (.iface 39 (.int .i64 x)) := bare_errno _
 go_enter Tryz.func256, Tryz.ntmps256
 go_wp2_with fail
 have hc1 := hc.later (Grew.alloc (Grew.refl w) (.cells #[.pointer (some ⟨4, 314, none⟩), .pointer (some ⟨a0, 0, none⟩), .int .u64 150] 318))
 have fb : objAt (w.alloc (.cells #[.pointer (some ⟨4, 314, none⟩), .pointer (some ⟨a0, 0, none⟩), .int .u64 150] 318)) w.heap.size = some (.cells #[.pointer (some ⟨4, 314, none⟩), .pointer (some ⟨a0, 0, none⟩), .int .u64 150] 318) := objAt_alloc_at _ _ _ rfl
 have ha1 := keep_alloc (.cells #[.pointer (some ⟨4, 314, none⟩), .pointer (some ⟨a0, 0, none⟩), .int .u64 150] 318) ha
 have ht1 := keep_alloc (.cells #[.pointer (some ⟨4, 314, none⟩), .pointer (some ⟨a0, 0, none⟩), .int .u64 150] 318) ht
 have lta := lt_of_objAt ht
 have HE : Hid (∀ w1, w1 = w.alloc (.cells #[.pointer (some ⟨4, 314, none⟩), .pointer (some ⟨a0, 0, none⟩), .int .u64 150] 318) → w1 = w.alloc (.cells #[.pointer (some ⟨4, 314, none⟩), .pointer (some ⟨a0, 0, none⟩), .int .u64 150] 318)) := fun _ h => h
 obtain ⟨w1, hw1⟩ : ∃ w1, w1 = w.alloc (.cells #[.pointer (some ⟨4, 314, none⟩), .pointer (some ⟨a0, 0, none⟩), .int .u64 150] 318) := ⟨_, rfl⟩
 rw [← hw1] at hc1 fb ha1 ht1 ⊢
 clear hc ha ht
 have lfb := lt_of_objAt fb
 have hHW : Hid (w1 = w.alloc (.cells #[.pointer (some ⟨4, 314, none⟩), .pointer (some ⟨a0, 0, none⟩), .int .u64 150] 318)) := hw1
 clear hw1 HE
 go_loopw [0, 9, 10, 11, 12, 14, 15] (fun v _ _ _ _ _ _ wr => wr = w1 ∧ ∃ l v0, v0 = v ∧ Chn w1 l (.iface 39 (.int .i64 x)) v0) (fun v _ _ _ _ _ _ _ => deep w1 v)
 case atStart => exact ⟨rfl, l, _, rfl, hc1⟩
 case round =>
  obtain ⟨rfl, l, v0, rfl, hc⟩ := hrel
  cases l with
  | nil =>
   obtain rfl : v0 = _ := hc
   have el := elemV_pe ⟨a0, 0, none⟩ ⟨tb, 0, none⟩ wr (by rw [cell_obj, ha1]; exact cellOf_cells _ _ _ _)
   have st := set_e ⟨tb, 0, none⟩ ⟨wr.heap.size, 0, none⟩ x (.int .i64 n0) (wr.alloc (.cells #[.int .i64 x] 39)) (by rw [cell_obj, objAt_alloc_at _ _ _ rfl]; exact cellOf_cells _ _ _ _) (by rw [cell_obj, keep_alloc _ ht1]; exact cellOf_cells _ _ _ _) (by rw [frozen_obj, keep_alloc _ ht1]; exact frozenOf_cells _ _ _)
   rw [setCell_eq_setRow _ tb 0 _ _ _ _ (keep_alloc _ ht1)] at st
   go_wp2
   go_ret
   exact ⟨rfl, by rw [setRow_alloc_past _ _ _ _ (lt_of_objAt ht1), hHW.out, setRow_alloc_past _ _ _ _ lta]; exact Grew.alloc (Grew.alloc (Grew.refl _) _) _⟩
  | cons s l =>
   obtain ⟨g, u, rfl, hg, hcu⟩ := hc
   have hd : deep wr u < deep wr (.iface 77 (.pointer (some ⟨g, 0, none⟩))) := by
    rw [deep_eq hbr hcu, deep_eq hbr (show Chn wr (s :: l) _ _ from ⟨g, u, rfl, hg, hcu⟩), List.length_cons]
    omega
   obtain ⟨tu, y, rfl⟩ : ∃ tu y, u = .iface tu y := by
    cases l with
    | nil => exact ⟨_, _, hcu⟩
    | cons s' l => obtain ⟨g', u', e, _⟩ := hcu; exact ⟨_, _, e⟩
   go_wp2_with (go_at_call 308; refine (funwrap_any g s _ _ hg).mono ?_; rintro e w' ⟨rfl, rfl⟩)
   go_roundw
   case rel => first | exact ⟨rfl, l, _, rfl, hcu⟩ | exact ⟨trivial, l, _, rfl, hcu⟩ | ((repeat' apply Exists.intro) <;> first | exact ⟨⟨trivial, l, _, rfl, hcu⟩, rfl⟩ | exact ⟨⟨rfl, l, _, rfl, hcu⟩, rfl⟩ | exact undef)
   case measure => exact hd
end Go.Proofs.YteadkbgghidibaaGreatDoor
namespace Go.Proofs.YteadkbgghidibaaGreatDoor
open Go.RowKit Go.Extern
set_option linter.unusedVariables false
set_option linter.unusedSimpArgs false
theorem As_ee (x n0 : Int) (l : List ByteArray) (v : Value) (tb : Nat) (w : World) (hE : EtAt w) (hc : Chn w l (.iface 39 (.int .i64 x)) v) (ht : objAt w tb = some (.cells #[.int .i64 n0] 39)) :
  Calls Tryz.prog 249 #[v, .iface 314 (.pointer (some ⟨tb, 0, none⟩))] w fun e w' => e = .returned (.bool true) ∧ Below (w.setRow tb #[.int .i64 x]).heap.size (w.setRow tb #[.int .i64 x]) w' := by
 have HC : Hid (∀ (a0 : Nat) (w1 : World), Below w.heap.size w w1 → objAt w1 a0 = some (.cells #[.pointer (some ⟨tb, 0, none⟩)] 314) → objAt w1 tb = some (.cells #[.int .i64 n0] 39) → Calls Tryz.prog 256 #[v, .iface 314 (.pointer (some ⟨tb, 0, none⟩)), .agg #[.pointer (some ⟨4, 314, none⟩), .pointer (some ⟨a0, 0, none⟩), .int .u64 150], .iface 163 (.agg #[.pointer (some ⟨4, 39, none⟩)])] w1 fun e w' => e = .returned (.bool true) ∧ Below (w1.setRow tb #[.int .i64 x]).heap.size (w1.setRow tb #[.int .i64 x]) w') := fun a0 w1 hb ha ht => as_ee x n0 tb a0 l v w1 (hc.later hb) ha ht
 obtain ⟨tE, fE, hE1⟩ := hE
 have hE2 := keep_alloc (.cells #[.pointer (some ⟨4, 314, none⟩), .pointer (some ⟨w.heap.size, 0, none⟩), .int .u64 150] 318) (keep_alloc (.cells #[.pointer (some ⟨tb, 0, none⟩)] 314) hE1)
 have ht2 := keep_alloc (.cells #[.pointer (some ⟨4, 314, none⟩), .pointer (some ⟨w.heap.size, 0, none⟩), .int .u64 150] 318) (keep_alloc (.cells #[.pointer (some ⟨tb, 0, none⟩)] 314) ht)
 have ha2 : objAt ((w.alloc (.cells #[.pointer (some ⟨tb, 0, none⟩)] 314)).alloc (.cells #[.pointer (some ⟨4, 314, none⟩), .pointer (some ⟨w.heap.size, 0, none⟩), .int .u64 150] 318)) w.heap.size = some (.cells #[.pointer (some ⟨tb, 0, none⟩)] 314) := keep_alloc _ (objAt_alloc_at _ _ _ rfl)
 have fb2 : objAt ((w.alloc (.cells #[.pointer (some ⟨tb, 0, none⟩)] 314)).alloc (.cells #[.pointer (some ⟨4, 314, none⟩), .pointer (some ⟨w.heap.size, 0, none⟩), .int .u64 150] 318)) (w.heap.size + 1) = some (.cells #[.pointer (some ⟨4, 314, none⟩), .pointer (some ⟨w.heap.size, 0, none⟩), .int .u64 150] 318) := objAt_alloc_at _ _ _ (by simp)
 have lta := lt_of_objAt ht
 have lE := lt_of_objAt hE1
 have hb2 : Below w.heap.size w ((w.alloc (.cells #[.pointer (some ⟨tb, 0, none⟩)] 314)).alloc (.cells #[.pointer (some ⟨4, 314, none⟩), .pointer (some ⟨w.heap.size, 0, none⟩), .int .u64 150] 318)) := Grew.alloc (Grew.alloc (Grew.refl w) _) _
 have n8 := isNil_pe ⟨w.heap.size, 0, none⟩ ⟨tb, 0, none⟩ ((w.alloc (.cells #[.pointer (some ⟨tb, 0, none⟩)] 314)).alloc (.cells #[.pointer (some ⟨4, 314, none⟩), .pointer (some ⟨w.heap.size, 0, none⟩), .int .u64 150] 318)) (by rw [cell_obj, ha2]; exact cellOf_cells _ _ _ _)
 clear hE1
 obtain ⟨tv, yv, rfl⟩ : ∃ t y, v = .iface t y := by
  cases l with
  | nil => exact ⟨_, _, hc⟩
  | cons s' l => obtain ⟨g', u', e, _⟩ := hc; exact ⟨_, _, e⟩
 clear hc
 go_enter Tryz.func249, Tryz.ntmps249
 go_wp2_with fail
 refine (HC.out _ _ hb2 ha2 ht2).mono ?_
 rintro e w' ⟨rfl, hb⟩
 go_wp2
 go_ret
 exact ⟨rfl, by rw [setRow_alloc_past _ _ _ _ (by simp; omega), setRow_alloc_past _ _ _ _ lta] at hb; exact Grew.trans (Grew.alloc (Grew.alloc (Grew.refl _) _) _) hb⟩
end Go.Proofs.YteadkbgghidibaaGreatDoor
namespace Go.Proofs.YteadkbgghidibaaGreatDoor
open Go.RowKit Go.Extern
set_option linter.unusedVariables false
set_option linter.unusedSimpArgs false
@[go_sem] theorem comparable_e2 (w : World) : ((ReflectliteType.method fun t => do Rtype.noPackHeld "Comparable" t; (fun a => Value.bool a.comparable) <$> typeInfo t) #[.agg #[.pointer (some ⟨4, 39, none⟩)]]).run Tryz.prog w = .ok (.bool true) w := by kernel_rfl
@[go_sem] theorem eql_pe (a b : Value) (w : World) : (binOp .eql 32 (.iface 77 a) (.iface 39 b)).run Tryz.prog w = .ok (.bool false) w := run_eql_iface_types _ _ _ _ Tryz.underlying32 (by decide) w
@[go_sem] theorem eql_ee (a b : Int) (w : World) : (binOp .eql 32 (.iface 39 (.int .i64 a)) (.iface 39 (.int .i64 b))).run Tryz.prog w = .ok (.bool (decide (a = b))) w := by
 have e1 : Tryz.prog.underlying 39 = _ := Tryz.underlying39
 have e2 : Tryz.prog.underlying 32 = _ := Tryz.underlying32
 obtain ⟨i, hi, hc⟩ : ∃ i, Tryz.prog.info? 39 = some i ∧ i.comparable = true := ⟨(Tryz.prog.info? 39).get (by kernel_rfl), by kernel_rfl, by kernel_rfl⟩
 have h : ∀ d : Nat, (Op.equalIn (d + 2) 32 (.iface 39 (.int .i64 a)) (.iface 39 (.int .i64 b))).run Tryz.prog w = .ok (decide (a = b)) w := fun d => by
  simp [Op.equalIn, run_underlying e1, run_underlying e2, typeInfo, hi, hc]
  by_cases hab : a = b <;> simp [hab]
 simp only [binOp]
 simp [Op.equal, Op.maxDepth, h 9998]
theorem is_e (x : Int) (e0 : Int) (l : List ByteArray) (v : Value) (w : World) (hc1 : Chn w l (.iface 39 (.int .i64 x)) v) :
  Calls Tryz.prog 59 #[v, .iface 39 (.int .i64 e0), .bool true] w fun e w' => e = .returned (.bool (decide (x = e0))) ∧ w' = w := by
 have hbr : Bare (.iface 39 (.int .i64 x)) := bare_errno _
 go_enter Tryz.func59, Tryz.ntmps59
 go_wp2_with fail
 go_loopw [0, 7, 8, 9, 10, 12, 13] (fun v _ _ _ _ _ _ wr => wr = w ∧ ∃ l v0, v0 = v ∧ Chn w l (.iface 39 (.int .i64 x)) v0) (fun v _ _ _ _ _ _ _ => deep w v)
 case atStart => exact ⟨rfl, l, _, rfl, hc1⟩
 case round =>
  obtain ⟨rfl, l, v0, rfl, hc⟩ := hrel
  cases l with
  | nil =>
   obtain rfl : v0 = _ := hc
   by_cases hx : x = e0
   ·subst hx
    go_wp2
    go_ret
    exact ⟨by simp, rfl⟩
   ·go_wp2
    go_ret
    exact ⟨by simp [hx], rfl⟩
  | cons s l =>
   obtain ⟨g, u, rfl, hg, hcu⟩ := hc
   have hd : deep wr u < deep wr (.iface 77 (.pointer (some ⟨g, 0, none⟩))) := by
    rw [deep_eq hbr hcu, deep_eq hbr (show Chn wr (s :: l) _ _ from ⟨g, u, rfl, hg, hcu⟩), List.length_cons]
    omega
   obtain ⟨tu, y, rfl⟩ : ∃ tu y, u = .iface tu y := by
    cases l with
    | nil => exact ⟨_, _, hcu⟩
    | cons s' l => obtain ⟨g', u', e, _⟩ := hcu; exact ⟨_, _, e⟩
   go_wp2_with (go_at_call 308; refine (funwrap_any g s _ _ hg).mono ?_; rintro e w' ⟨rfl, rfl⟩)
   go_roundw
   case rel => first | exact ⟨rfl, l, _, rfl, hcu⟩ | exact ⟨trivial, l, _, rfl, hcu⟩ | ((repeat' apply Exists.intro) <;> first | exact ⟨⟨trivial, l, _, rfl, hcu⟩, rfl⟩ | exact ⟨⟨rfl, l, _, rfl, hcu⟩, rfl⟩ | exact undef)
   case measure => exact hd
theorem Is_e (x : Int) (e0 : Int) (l : List ByteArray) (v : Value) (w : World) (hc : Chn w l (.iface 39 (.int .i64 x)) v) :
  Calls Tryz.prog 11 #[v, .int .i64 e0] w fun e w' => e = .returned (.bool (decide (x = e0))) ∧ w' = w := by
 have H := is_e x e0 l v w hc
 obtain ⟨tv, yv, rfl⟩ : ∃ t y, v = .iface t y := by
  cases l with
  | nil => exact ⟨_, _, hc⟩
  | cons s' l => obtain ⟨g', u', e, _⟩ := hc; exact ⟨_, _, e⟩
 clear hc
 have H2 : Calls Tryz.prog 28 #[.iface tv yv, .iface 39 (.int .i64 e0)] w fun e w' => e = .returned (.bool (decide (x = e0))) ∧ w' = w := by
  go_enter Tryz.func28, Tryz.ntmps28
  go_wp2_with (go_at_call 59; refine H.mono ?_; rintro e w' ⟨rfl, rfl⟩)
  go_ret
  exact ⟨rfl, rfl⟩
 clear H
 go_enter Tryz.func11, Tryz.ntmps11
 go_wp2_with (go_at_call 28; refine H2.mono ?_; rintro e w' ⟨rfl, rfl⟩)
 go_ret
 exact ⟨rfl, rfl⟩
theorem Code_e (x : Int) (l : List ByteArray) (v : Value) (w : World) (hE : EtAt w) (hc : Chn w l (.iface 39 (.int .i64 x)) v) :
  Calls Tryz.prog 247 #[v] w fun e w' => e = .returned (.int .i64 (x)) ∧ Below w.heap.size w w' := by
 have C := As_ee x 0 l v _ _ (hE.later (Grew.alloc (Grew.refl w) _)) (hc.later (Grew.alloc (Grew.refl w) _)) (objAt_alloc_at _ _ _ rfl)
 have hb : Below w.heap.size w (w.alloc (.cells #[.int .i64 0] 39)) := Grew.alloc (Grew.refl w) _
 go_enter Tryz.func247, Tryz.ntmps247
 go_wp2_with fail
 refine C.mono ?_
 rintro e w' ⟨rfl, hb1⟩
 rw [setRow_alloc_at _ _ _ _ _ rfl] at hb1
 have ft := keep_below hb1 (objAt_alloc_at w (.cells #[.int .i64 x] 39) _ rfl)
 have lft := lt_of_objAt ft
 go_wp2
 go_ret
 exact ⟨rfl, Grew.trans (Grew.alloc (Grew.refl w) _) hb1⟩
end Go.Proofs.YteadkbgghidibaaGreatDoor
namespace Go.Proofs.YteadkbgghidibaaGreatDoor
open Go.ChangeShapes Go.WideShapes Go.ChangeAt Go.RowKit
set_option linter.unusedVariables false
set_option linter.unusedSimpArgs false
theorem laid3_of {W : World} (h : laidMetH Tryz.prog [("errors.errorType", Rows.laid_errors_errorType), ("sapwood/sha.square", Rows.laid_sapwood_sha_square), ("sapwood/sha.cube", Rows.laid_sapwood_sha_cube)] W) : Tabs W ∧ EtAt W := by
 refine ⟨tabs_of_laid (laidMetH.filter (fun x => x.1 != "errors.errorType") h), ?_⟩
 have h2 : ∃ name u ty, Rows.laid_errors_errorType.handleName? (H := Unit) = some name ∧ (Tryz.prog.cutTypes.find? (·.1 == "internal/reflectlite.rtype")).map (·.2) = some u ∧ ty < Tryz.prog.types.size ∧ Tryz.prog.rowNamed ty name = true ∧ W.var? Tryz.prog "errors.errorType" = some #[.iface u (.agg #[typeHandle Tryz.prog ty])] :=
  (laidMetH_iff.1 h).2 ("errors.errorType", Rows.laid_errors_errorType) (List.mem_filter.2 ⟨List.mem_cons_self .., rfl⟩)
 obtain ⟨name, u, ty, e1, e2, e3, e4, e5⟩ := h2
 have en : name = [101, 114, 114, 111, 114] := (Option.some.inj e1).symm
 subst en
 have rt : (Tryz.prog.cutTypes.find? (·.1 == "internal/reflectlite.rtype")).map (·.2) = some 163 := by kernel_rfl
 obtain rfl := Option.some.inj (rt.symm.trans e2)
 have one : ((List.range Tryz.prog.types.size).filter fun t => Tryz.prog.rowNamed t [101, 114, 114, 111, 114]) = [32] := by kernel_rfl
 have hm : ty ∈ (List.range Tryz.prog.types.size).filter fun t => Tryz.prog.rowNamed t [101, 114, 114, 111, 114] := List.mem_filter.2 ⟨List.mem_range.2 e3, e4⟩
 rw [one] at hm
 obtain rfl := List.mem_singleton.1 hm
 have hh : typeHandle Tryz.prog 32 = .pointer (some ⟨4, 32, none⟩) := by kernel_rfl
 rw [hh] at e5
 have G0 : Tryz.prog.globalNamed "errors.errorType" = some 3 := by kernel_rfl
 unfold World.var? at e5
 rw [G0] at e5
 simp only [Option.bind_some] at e5
 split at e5
 ·rename_i c t fr hx
  obtain rfl := Option.some.inj e5
  exact ⟨t, fr, hx⟩
 ·cases e5
noncomputable def hw0 (os : Os) : World :=
 let w0 := World.holding Tryz.prog os ⟨#[], #[], []⟩
 { w0 with heap := w0.heap.modify 3 fun
   | .cells _ t frozen => .cells #[.iface 163 (.agg #[.pointer (some ⟨4, 32, none⟩)])] t frozen
   | o => o }
noncomputable def hwL (os : Os) : World := (hw0 os).layVars Tryz.prog [("sapwood/sha.square", Rows.laid_sapwood_sha_square), ("sapwood/sha.cube", Rows.laid_sapwood_sha_cube)]
theorem hwL_os (os : Os) : (hwL os).os = os := World.layVars_os _ _ _
theorem hwL_met (os : Os) (args : Array Value) : laidMetH Tryz.prog [("errors.errorType", Rows.laid_errors_errorType), ("sapwood/sha.square", Rows.laid_sapwood_sha_square), ("sapwood/sha.cube", Rows.laid_sapwood_sha_cube)] ((hwL os).forCall (fun _ _ => 0) ⟨#[], args, []⟩).memory := by
 have h0 : laidMet Tryz.prog [("sapwood/sha.square", Rows.laid_sapwood_sha_square), ("sapwood/sha.cube", Rows.laid_sapwood_sha_cube)] (hwL os) :=
  laidMet_layVars (w0 := hw0 os) ["sapwood/sha.square", "sapwood/sha.cube"] [] rfl (by kernel_rfl) (by kernel_rfl) (by exact LaidIn.none)
 refine laidMetH_of_parts ?_ (by kernel_rfl)
 exact h0.of_heap (by simp [World.memory, World.forCall, Input.heap])
end Go.Proofs.YteadkbgghidibaaGreatDoor
namespace Go.Proofs.YteadkbgghidibaaGreatDoor
open Go.ChangeShapes Go.WideShapes Go.ChangeAt Go.RowKit
set_option linter.unusedVariables false
set_option linter.unusedSimpArgs false
end Go.Proofs.YteadkbgghidibaaGreatDoor
