/- E15 -/
import Derived.Test.YtdoolhbmekahdaaGreatDoorMem
import Derived.WalkKit
import Derived.LaidEql
import Derived.Stop.Asserts
import Derived.RowKitTokens
import Derived.Test.YtdoolhbmekahdaaGreatDoorQ12
import Derived.Stop.Joined
import Derived.Test.YtdoolhbmekahdaaGreatDoorOw
import Derived.LaidHandle
import Derived.LaidSub
set_option maxRecDepth 100000
set_option maxHeartbeats 4000000
namespace Go.Proofs.YtdoolhbmekahdaaGreatDoor
open Go.RowKit Go.Extern
set_option linter.unusedVariables false
set_option linter.unusedSimpArgs false
@[go_sem] theorem rm_Kind (f : Nat) (h : Value) (w : World) : (Go.method (f + 1) 228 (.agg #[h]) "Kind").run Tryz.prog w = .ok (453, h) w := by kernel_rfl
@[go_sem] theorem rm_Elem (f : Nat) (h : Value) (w : World) : (Go.method (f + 1) 228 (.agg #[h]) "Elem").run Tryz.prog w = .ok (483, .agg #[h]) w := by kernel_rfl
@[go_sem] theorem rm_Implements (f : Nat) (h : Value) (w : World) : (Go.method (f + 1) 228 (.agg #[h]) "Implements").run Tryz.prog w = .ok (484, .agg #[h]) w := by kernel_rfl
@[go_sem] theorem rm_AssignableTo (f : Nat) (h : Value) (w : World) : (Go.method (f + 1) 228 (.agg #[h]) "AssignableTo").run Tryz.prog w = .ok (481, .agg #[h]) w := by kernel_rfl
@[go_sem] theorem rm_Comparable (f : Nat) (h : Value) (w : World) : (Go.method (f + 1) 228 (.agg #[h]) "Comparable").run Tryz.prog w = .ok (482, .agg #[h]) w := by kernel_rfl
@[go_sem] theorem em_Error (f : Nat) (v : Value) (w : World) : (Go.method (f + 1) 51 v "Error").run Tryz.prog w = .ok (49, v) w := by kernel_rfl
@[go_sem] theorem fm_Error (f : Nat) (v : Value) (w : World) : (Go.method (f + 1) 60 v "Error").run Tryz.prog w = .ok (457, v) w := by kernel_rfl
@[go_sem] theorem fm_Unwrap (f : Nat) (v : Value) (w : World) : (Go.method (f + 1) 60 v "Unwrap").run Tryz.prog w = .ok (458, v) w := by kernel_rfl
@[go_sem] theorem ta_as_e (v : Value) (xT : TypeId) (w : World) : (Instr.typeAssert (.iface 51 v) xT 233 true).run Tryz.prog w = .ok (.tuple #[.nilIface, .bool false]) w := run_typeAssert_lacksB Tryz.underlying233 (by kernel_rfl) (by kernel_rfl) v xT w
@[go_sem] theorem ta_as_f (v : Value) (xT : TypeId) (w : World) : (Instr.typeAssert (.iface 60 v) xT 233 true).run Tryz.prog w = .ok (.tuple #[.nilIface, .bool false]) w := run_typeAssert_lacksB Tryz.underlying233 (by kernel_rfl) (by kernel_rfl) v xT w
@[go_sem] theorem ta_as_s (v : Value) (xT : TypeId) (w : World) : (Instr.typeAssert (.iface 315 v) xT 233 true).run Tryz.prog w = .ok (.tuple #[.nilIface, .bool false]) w := run_typeAssert_lacksB Tryz.underlying233 (by kernel_rfl) (by kernel_rfl) v xT w
@[go_sem] theorem ta_un_e (v : Value) (xT : TypeId) (w : World) : (Instr.typeAssert (.iface 51 v) xT 236 true).run Tryz.prog w = .ok (.tuple #[.nilIface, .bool false]) w := run_typeAssert_lacksB Tryz.underlying236 (by kernel_rfl) (by kernel_rfl) v xT w
@[go_sem] theorem ta_un_f (v : Value) (xT : TypeId) (w : World) : (Instr.typeAssert (.iface 60 v) xT 236 true).run Tryz.prog w = .ok (.tuple #[.iface 60 v, .bool true]) w := run_typeAssert_hasB Tryz.underlying236 (by kernel_rfl) v xT w
@[go_sem] theorem ta_un_s (v : Value) (xT : TypeId) (w : World) : (Instr.typeAssert (.iface 315 v) xT 236 true).run Tryz.prog w = .ok (.tuple #[.nilIface, .bool false]) w := run_typeAssert_lacksB Tryz.underlying236 (by kernel_rfl) (by kernel_rfl) v xT w
@[go_sem] theorem ta_us_e (v : Value) (xT : TypeId) (w : World) : (Instr.typeAssert (.iface 51 v) xT 237 true).run Tryz.prog w = .ok (.tuple #[.nilIface, .bool false]) w := run_typeAssert_lacksB Tryz.underlying237 (by kernel_rfl) (by kernel_rfl) v xT w
@[go_sem] theorem ta_us_f (v : Value) (xT : TypeId) (w : World) : (Instr.typeAssert (.iface 60 v) xT 237 true).run Tryz.prog w = .ok (.tuple #[.nilIface, .bool false]) w := run_typeAssert_lacksB Tryz.underlying237 (by kernel_rfl) (by kernel_rfl) v xT w
@[go_sem] theorem ta_us_s (v : Value) (xT : TypeId) (w : World) : (Instr.typeAssert (.iface 315 v) xT 237 true).run Tryz.prog w = .ok (.tuple #[.nilIface, .bool false]) w := run_typeAssert_lacksB Tryz.underlying237 (by kernel_rfl) (by kernel_rfl) v xT w
@[go_sem] theorem ta_is_e (v : Value) (xT : TypeId) (w : World) : (Instr.typeAssert (.iface 51 v) xT 449 true).run Tryz.prog w = .ok (.tuple #[.nilIface, .bool false]) w := run_typeAssert_lacksB Tryz.underlying449 (by kernel_rfl) (by kernel_rfl) v xT w
@[go_sem] theorem ta_is_f (v : Value) (xT : TypeId) (w : World) : (Instr.typeAssert (.iface 60 v) xT 449 true).run Tryz.prog w = .ok (.tuple #[.nilIface, .bool false]) w := run_typeAssert_lacksB Tryz.underlying449 (by kernel_rfl) (by kernel_rfl) v xT w
@[go_sem] theorem ta_is_s (v : Value) (xT : TypeId) (w : World) : (Instr.typeAssert (.iface 315 v) xT 449 true).run Tryz.prog w = .ok (.tuple #[.nilIface, .bool false]) w := run_typeAssert_lacksB Tryz.underlying449 (by kernel_rfl) (by kernel_rfl) v xT w
@[go_sem] theorem ta_ff (v : Value) (xT : TypeId) (w : World) : (Instr.typeAssert (.iface 60 v) xT 60 true).run Tryz.prog w = .ok (.tuple #[v, .bool true]) w := by kernel_rfl
@[go_sem] theorem ta_fe (v : Value) (xT : TypeId) (w : World) : (Instr.typeAssert (.iface 51 v) xT 60 true).run Tryz.prog w = .ok (.tuple #[.pointer none, .bool false]) w := by kernel_rfl
@[go_sem] theorem ta_fs (v : Value) (xT : TypeId) (w : World) : (Instr.typeAssert (.iface 315 v) xT 60 true).run Tryz.prog w = .ok (.tuple #[.pointer none, .bool false]) w := by kernel_rfl
@[go_sem] theorem tyof_e (v : Value) (w : World) : (ReflectliteType.typeOf #[.iface 51 v]).run Tryz.prog w = .ok (.iface 228 (.agg #[.pointer (some ⟨17, 51, none⟩)])) w := by kernel_rfl
@[go_sem] theorem asg_e_e (w : World) : (ReflectliteType.relation "AssignableTo" ReflectliteType.assignableTo #[.agg #[.pointer (some ⟨17, 51, none⟩)], .iface 228 (.agg #[.pointer (some ⟨17, 51, none⟩)])]).run Tryz.prog w = .ok (.bool true) w := by kernel_rfl
@[go_sem] theorem asg_e_f (w : World) : (ReflectliteType.relation "AssignableTo" ReflectliteType.assignableTo #[.agg #[.pointer (some ⟨17, 51, none⟩)], .iface 228 (.agg #[.pointer (some ⟨17, 60, none⟩)])]).run Tryz.prog w = .ok (.bool false) w := by kernel_rfl
@[go_sem] theorem tyof_f (v : Value) (w : World) : (ReflectliteType.typeOf #[.iface 60 v]).run Tryz.prog w = .ok (.iface 228 (.agg #[.pointer (some ⟨17, 60, none⟩)])) w := by kernel_rfl
@[go_sem] theorem asg_f_e (w : World) : (ReflectliteType.relation "AssignableTo" ReflectliteType.assignableTo #[.agg #[.pointer (some ⟨17, 60, none⟩)], .iface 228 (.agg #[.pointer (some ⟨17, 51, none⟩)])]).run Tryz.prog w = .ok (.bool false) w := by kernel_rfl
@[go_sem] theorem asg_f_f (w : World) : (ReflectliteType.relation "AssignableTo" ReflectliteType.assignableTo #[.agg #[.pointer (some ⟨17, 60, none⟩)], .iface 228 (.agg #[.pointer (some ⟨17, 60, none⟩)])]).run Tryz.prog w = .ok (.bool true) w := by kernel_rfl
@[go_sem] theorem tyof_s (v : Value) (w : World) : (ReflectliteType.typeOf #[.iface 315 v]).run Tryz.prog w = .ok (.iface 228 (.agg #[.pointer (some ⟨17, 315, none⟩)])) w := by kernel_rfl
@[go_sem] theorem asg_s_e (w : World) : (ReflectliteType.relation "AssignableTo" ReflectliteType.assignableTo #[.agg #[.pointer (some ⟨17, 315, none⟩)], .iface 228 (.agg #[.pointer (some ⟨17, 51, none⟩)])]).run Tryz.prog w = .ok (.bool false) w := by kernel_rfl
@[go_sem] theorem asg_s_f (w : World) : (ReflectliteType.relation "AssignableTo" ReflectliteType.assignableTo #[.agg #[.pointer (some ⟨17, 315, none⟩)], .iface 228 (.agg #[.pointer (some ⟨17, 60, none⟩)])]).run Tryz.prog w = .ok (.bool false) w := by kernel_rfl
@[go_sem] theorem comparable_e (w : World) : ((ReflectliteType.method fun t => do Rtype.noPackHeld "Comparable" t; (fun a => Value.bool a.comparable) <$> typeInfo t) #[.agg #[.pointer (some ⟨17, 51, none⟩)]]).run Tryz.prog w = .ok (.bool true) w := by kernel_rfl
@[go_sem] theorem kind_pe (w : World) : ((ReflectliteType.abiMethod fun t => (fun a : Nat => Value.int IntKind.u8 (a : Int)) <$> Rtype.kind t) #[.pointer (some ⟨17, 155, none⟩)]).run Tryz.prog w = .ok (.int .u8 22) w := by kernel_rfl
@[go_sem] theorem kind_e (w : World) : ((ReflectliteType.abiMethod fun t => (fun a : Nat => Value.int IntKind.u8 (a : Int)) <$> Rtype.kind t) #[.pointer (some ⟨17, 51, none⟩)]).run Tryz.prog w = .ok (.int .u8 2) w := by kernel_rfl
@[go_sem] theorem kind_f (w : World) : ((ReflectliteType.abiMethod fun t => (fun a : Nat => Value.int IntKind.u8 (a : Int)) <$> Rtype.kind t) #[.pointer (some ⟨17, 60, none⟩)]).run Tryz.prog w = .ok (.int .u8 22) w := by kernel_rfl
@[go_sem] theorem vof_e (n : Int) (w : World) : (ReflectliteValue.unpack (.iface 51 (.int .i64 n))).run Tryz.prog w = .ok (.agg #[.pointer (some ⟨17, 51, none⟩), .pointer (some ⟨w.heap.size, 0, none⟩), .int .u64 130]) (w.alloc (.cells #[.int .i64 n] 51)) := by kernel_rfl
theorem rlm (z : Sem Value) (f : TypeId → Addr → Nat → Nat → Sem Value) (v : Value) :
  ReflectliteValue.method z f #[v] = (do match ← ReflectliteValue.parts v with | none => z | some (t, a, fl) => f t a fl (fl % 32)) := rfl
theorem rls (v x : Value) : ReflectliteValue.set #[v, x] = (do
  let (some (dst, a, fl), some (src, b, _)) := (← ReflectliteValue.parts v, ← ReflectliteValue.parts x)
   | unsupported (.noEntry "extern/(internal/reflectlite.Value).Set.zeroValue")
  if fl / ReflectliteValue.flagAddr % 2 == 0 then unsupported (.noEntry "extern/(internal/reflectlite.Value).Set.unaddressable")
  let val ← loadVar src b
  if ← Rtype.directlyAssignable dst src then storeVar dst a val
  else if ← Rtype.implements dst src then
   if (← Rtype.kind src) == 20 then
    match val with
    | .nilIface => unsupported (.noEntry "extern/reflectlite: a nil value of one interface type handed on as a value of another")
    | _ => storeVar dst a val
   else storeVar dst a (.iface src val)
  else panicString ("reflectlite.Set: value of type " ++ (← Rtype.spelt src) ++ " is not assignable to type " ++ (← Rtype.spelt dst))
  pure (.tuple #[])) := rfl
@[go_sem] theorem vof_pe (t : Addr) (w : World) : (ReflectliteValue.unpack (.iface 155 (.pointer (some t)))).run Tryz.prog w = .ok (.agg #[.pointer (some ⟨17, 155, none⟩), .pointer (some ⟨w.heap.size, 0, none⟩), .int .u64 150]) (w.alloc (.cells #[.pointer (some t)] 155)) := by kernel_rfl
@[go_sem] theorem vty_pe (a : Addr) (w : World) : (ReflectliteValue.methodAny (ReflectliteValue.valueError "reflectlite.Value.Type" 0) (fun t _ _ _ => ReflectliteType.toType t) #[.agg #[.pointer (some ⟨17, 155, none⟩), .pointer (some a), .int .u64 150]]).run Tryz.prog w = .ok (.iface 228 (.agg #[.pointer (some ⟨17, 155, none⟩)])) w := by kernel_rfl
@[go_sem] theorem elem_pe (w : World) : (ReflectliteType.method ReflectliteType.elem #[.agg #[.pointer (some ⟨17, 155, none⟩)]]).run Tryz.prog w = .ok (.iface 228 (.agg #[.pointer (some ⟨17, 51, none⟩)])) w := by kernel_rfl
@[go_sem] theorem impl_e (w : World) : (ReflectliteType.relation "Implements" ReflectliteType.implements_ #[.agg #[.pointer (some ⟨17, 51, none⟩)], .iface 228 (.agg #[.pointer (some ⟨17, 31, none⟩)])]).run Tryz.prog w = .ok (.bool true) w := by kernel_rfl
theorem parts_pe (a : Addr) (w : World) : (ReflectliteValue.parts (.agg #[.pointer (some ⟨17, 155, none⟩), .pointer (some a), .int .u64 150])).run Tryz.prog w = .ok (some (155, a, 150)) w := by kernel_rfl
theorem partsA_e (a : Addr) (w : World) : (ReflectliteValue.parts (.agg #[.pointer (some ⟨17, 51, none⟩), .pointer (some a), .int .u64 386])).run Tryz.prog w = .ok (some (51, a, 386)) w := by kernel_rfl
theorem parts_e (a : Addr) (w : World) : (ReflectliteValue.parts (.agg #[.pointer (some ⟨17, 51, none⟩), .pointer (some a), .int .u64 130])).run Tryz.prog w = .ok (some (51, a, 130)) w := by kernel_rfl
theorem elemOf_pe (w : World) : (Rtype.elem? 155).run Tryz.prog w = .ok (some 51) w := by kernel_rfl
theorem mk_e (p : Addr) (w : World) : (ReflectliteValue.mk 51 p ReflectliteValue.flagAddr).run Tryz.prog w = .ok (.agg #[.pointer (some ⟨17, 51, none⟩), .pointer (some p), .int .u64 386]) w := by kernel_rfl
theorem direct_e (w : World) : (Rtype.directlyAssignable 51 51).run Tryz.prog w = .ok true w := by kernel_rfl
theorem isNil_pe (a p : Addr) (W : World) (ha : W.cell? a = some (.pointer (some p))) : (ReflectliteValue.method (ReflectliteValue.valueError "reflectlite.Value.IsNil" 0) ReflectliteValue.isNil #[.agg #[.pointer (some ⟨17, 155, none⟩), .pointer (some a), .int .u64 150]]).run Tryz.prog W = .ok (.bool false) W := by
 rw [rlm]
 simp only [Sem.run_bind, parts_pe, Result.andThen]
 simp [ReflectliteValue.isNil, loadVar, isAgg, underlying, Tryz.underlying155, ha, Result.andThen]
theorem elemV_pe (a p : Addr) (W : World) (ha : W.cell? a = some (.pointer (some p))) : (ReflectliteValue.method (ReflectliteValue.valueError "reflectlite.Value.Elem" 0) ReflectliteValue.elem #[.agg #[.pointer (some ⟨17, 155, none⟩), .pointer (some a), .int .u64 150]]).run Tryz.prog W = .ok (.agg #[.pointer (some ⟨17, 51, none⟩), .pointer (some p), .int .u64 386]) W := by
 rw [rlm]
 simp only [Sem.run_bind, parts_pe, Result.andThen]
 simp [ReflectliteValue.elem, loadVar, isAgg, underlying, Tryz.underlying155, ha, Result.andThen, elemOf_pe, mk_e]
theorem set_e (ta b : Addr) (n : Int) (old : Value) (W : World) (hb : W.cell? b = some (.int .i64 n)) (ht : W.cell? ta = some old) (hf : W.frozen? ta = false) : (ReflectliteValue.set #[.agg #[.pointer (some ⟨17, 51, none⟩), .pointer (some ta), .int .u64 386], .agg #[.pointer (some ⟨17, 51, none⟩), .pointer (some b), .int .u64 130]]).run Tryz.prog W = .ok (.tuple #[]) (W.setCell ta (.int .i64 n)) := by
 rw [rls]
 simp only [Sem.run_bind, partsA_e, parts_e, Result.andThen]
 simp [ReflectliteValue.flagAddr, loadVar, isAgg, underlying, Tryz.underlying51, hb, Result.andThen, direct_e, storeVar, Value.cells, storeCells, Addr.add]
 rw [run_store Tryz.prog W ta _ _ (by rfl)]
 simp [ht, hf]
@[go_sem] theorem vof_f (t : Option Addr) (w : World) : (ReflectliteValue.unpack (.iface 60 (.pointer t))).run Tryz.prog w = .ok (.agg #[.pointer (some ⟨17, 60, none⟩), .pointer (some ⟨w.heap.size, 0, none⟩), .int .u64 150]) (w.alloc (.cells #[.pointer t] 60)) := by kernel_rfl
@[go_sem] theorem impl_f (w : World) : (ReflectliteType.relation "Implements" ReflectliteType.implements_ #[.agg #[.pointer (some ⟨17, 60, none⟩)], .iface 228 (.agg #[.pointer (some ⟨17, 31, none⟩)])]).run Tryz.prog w = .ok (.bool true) w := by kernel_rfl
end Go.Proofs.YtdoolhbmekahdaaGreatDoor
namespace Go.Proofs.YtdoolhbmekahdaaGreatDoor
open Go.RowKit Go.Extern
set_option linter.unusedVariables false
set_option linter.unusedSimpArgs false
def Chn (w : World) : List ByteArray → Value → Value → Prop
 | [], b, v => v = b
 | s :: l, b, v => ∃ g u, v = .iface 60 (.pointer (some ⟨g, 0, none⟩)) ∧ objAt w g = some (.cells #[.string s, u] 62) ∧ Chn w l b u
theorem Chn.later {w w' : World} (hb : Below w.heap.size w w') : ∀ {l : List ByteArray} {b v : Value}, Chn w l b v → Chn w' l b v
 | [], _, _, h => h
 | _ :: l, _, _, ⟨g, u, e, h, hc⟩ => ⟨g, u, e, keep_below hb h, hc.later hb⟩
def Bare (b : Value) : Prop := ∀ x, b ≠ .iface 60 x
theorem chn_one {w : World} {b b' v : Value} (hb : Bare b) (hb' : Bare b') : ∀ {l l' : List ByteArray}, Chn w l b v → Chn w l' b' v → l.length = l'.length
 | [], [], _, _ => rfl
 | [], _ :: _, h, ⟨g, u, e, _⟩ => absurd (h.symm.trans e) (hb _)
 | _ :: _, [], ⟨g, u, e, _⟩, h => absurd (h.symm.trans e) (hb' _)
 | _ :: l, _ :: l', ⟨g, u, e, h, hc⟩, ⟨g', u', e', h', hc'⟩ => by
  rw [e] at e'
  cases e'
  rw [h] at h'
  injection h' with h'
  injection h' with h'
  obtain ⟨_, rfl⟩ : _ ∧ u = u' := by simpa using h'
  rw [List.length_cons, List.length_cons, chn_one hb hb' hc hc']
noncomputable def deep (w : World) (v : Value) : Nat := by
 classical exact if h : ∃ l b, Bare b ∧ Chn w l b v then h.choose.length else 0
theorem deep_eq {w : World} {l : List ByteArray} {b v : Value} (hb : Bare b) (h : Chn w l b v) : deep w v = l.length := by
 have hx : ∃ l b, Bare b ∧ Chn w l b v := ⟨l, b, hb, h⟩
 unfold deep
 rw [dif_pos hx]
 obtain ⟨b', h1, h2⟩ := hx.choose_spec
 exact chn_one h1 hb h2 h
theorem bare_errno (n : Value) : Bare (.iface 51 n) := fun x h => by injection h with h; exact absurd h (by decide)
def EtAt (w : World) : Prop := ∃ t fr, objAt w 2 = some (.cells #[.iface 228 (.agg #[.pointer (some ⟨17, 31, none⟩)])] t fr)
theorem EtAt.later {w w' : World} (h : EtAt w) (hb : Below w.heap.size w w') : EtAt w' := by
 obtain ⟨t, fr, h⟩ := h
 exact ⟨t, fr, keep_below hb h⟩
theorem funwrap_any (g : Nat) (s : ByteArray) (u : Value) (w : World) (h : objAt w g = some (.cells #[.string s, u] 62)) :
  Calls Tryz.prog 458 #[.pointer (some ⟨g, 0, none⟩)] w fun e w' => e = .returned u ∧ w' = w := by
 go_enter Tryz.func458, Tryz.ntmps458
 go_wp2
 go_ret
 exact ⟨rfl, rfl⟩
@[go_sem] theorem rex_0 (args : Array Value) (w : World) : (callFunc 126 args).run Tryz.prog w = (((fun args => ReflectliteValue.unpack (args.getD 0 (.tuple #[]))) args).run Tryz.prog w).andThen fun v w' => .ok (.value v) w' := run_callFunc_extern (e := (fun args => ReflectliteValue.unpack (args.getD 0 (.tuple #[])))) Tryz.func126 (by kernel_rfl) (by kernel_rfl) (by kernel_rfl) (by kernel_rfl) args w
@[go_sem] theorem rex_1 (args : Array Value) (w : World) : (callFunc 127 args).run Tryz.prog w = (((ReflectliteValue.methodAny (ReflectliteValue.valueError "reflectlite.Value.Type" 0) (fun t _ _ _ => ReflectliteType.toType t)) args).run Tryz.prog w).andThen fun v w' => .ok (.value v) w' := run_callFunc_extern (e := (ReflectliteValue.methodAny (ReflectliteValue.valueError "reflectlite.Value.Type" 0) (fun t _ _ _ => ReflectliteType.toType t))) Tryz.func127 (by kernel_rfl) (by kernel_rfl) (by kernel_rfl) (by kernel_rfl) args w
@[go_sem] theorem rex_2 (args : Array Value) (w : World) : (callFunc 128 args).run Tryz.prog w = (((ReflectliteValue.method (ReflectliteValue.valueError "reflectlite.Value.IsNil" 0) ReflectliteValue.isNil) args).run Tryz.prog w).andThen fun v w' => .ok (.value v) w' := run_callFunc_extern (e := (ReflectliteValue.method (ReflectliteValue.valueError "reflectlite.Value.IsNil" 0) ReflectliteValue.isNil)) Tryz.func128 (by kernel_rfl) (by kernel_rfl) (by kernel_rfl) (by kernel_rfl) args w
@[go_sem] theorem rex_3 (args : Array Value) (w : World) : (callFunc 453 args).run Tryz.prog w = (((ReflectliteType.abiMethod fun t => do pure (.int .u8 (← Rtype.kind t))) args).run Tryz.prog w).andThen fun v w' => .ok (.value v) w' := run_callFunc_extern (e := (ReflectliteType.abiMethod fun t => do pure (.int .u8 (← Rtype.kind t)))) Tryz.func453 (by kernel_rfl) (by kernel_rfl) (by kernel_rfl) (by kernel_rfl) args w
@[go_sem] theorem rex_4 (args : Array Value) (w : World) : (callFunc 483 args).run Tryz.prog w = (((ReflectliteType.method ReflectliteType.elem) args).run Tryz.prog w).andThen fun v w' => .ok (.value v) w' := run_callFunc_extern (e := (ReflectliteType.method ReflectliteType.elem)) Tryz.func483 (by kernel_rfl) (by kernel_rfl) (by kernel_rfl) (by kernel_rfl) args w
@[go_sem] theorem rex_5 (args : Array Value) (w : World) : (callFunc 484 args).run Tryz.prog w = (((ReflectliteType.relation "Implements" ReflectliteType.implements_) args).run Tryz.prog w).andThen fun v w' => .ok (.value v) w' := run_callFunc_extern (e := (ReflectliteType.relation "Implements" ReflectliteType.implements_)) Tryz.func484 (by kernel_rfl) (by kernel_rfl) (by kernel_rfl) (by kernel_rfl) args w
@[go_sem] theorem rex_6 (args : Array Value) (w : World) : (callFunc 161 args).run Tryz.prog w = ((ReflectliteType.typeOf args).run Tryz.prog w).andThen fun v w' => .ok (.value v) w' := run_callFunc_extern (e := ReflectliteType.typeOf) Tryz.func161 (by kernel_rfl) (by kernel_rfl) (by kernel_rfl) (by kernel_rfl) args w
@[go_sem] theorem rex_7 (args : Array Value) (w : World) : (callFunc 481 args).run Tryz.prog w = (((ReflectliteType.relation "AssignableTo" ReflectliteType.assignableTo) args).run Tryz.prog w).andThen fun v w' => .ok (.value v) w' := run_callFunc_extern (e := (ReflectliteType.relation "AssignableTo" ReflectliteType.assignableTo)) Tryz.func481 (by kernel_rfl) (by kernel_rfl) (by kernel_rfl) (by kernel_rfl) args w
@[go_sem] theorem rex_8 (args : Array Value) (w : World) : (callFunc 162 args).run Tryz.prog w = (((ReflectliteValue.method (ReflectliteValue.valueError "reflectlite.Value.Elem" 0) ReflectliteValue.elem) args).run Tryz.prog w).andThen fun v w' => .ok (.value v) w' := run_callFunc_extern (e := (ReflectliteValue.method (ReflectliteValue.valueError "reflectlite.Value.Elem" 0) ReflectliteValue.elem)) Tryz.func162 (by kernel_rfl) (by kernel_rfl) (by kernel_rfl) (by kernel_rfl) args w
@[go_sem] theorem rex_9 (args : Array Value) (w : World) : (callFunc 163 args).run Tryz.prog w = ((ReflectliteValue.set args).run Tryz.prog w).andThen fun v w' => .ok (.value v) w' := run_callFunc_extern (e := ReflectliteValue.set) Tryz.func163 (by kernel_rfl) (by kernel_rfl) (by kernel_rfl) (by kernel_rfl) args w
@[go_sem] theorem rex_10 (args : Array Value) (w : World) : (callFunc 482 args).run Tryz.prog w = (((ReflectliteType.method fun t => do Rtype.noPackHeld "Comparable" t; pure (.bool (← typeInfo t).comparable)) args).run Tryz.prog w).andThen fun v w' => .ok (.value v) w' := run_callFunc_extern (e := (ReflectliteType.method fun t => do Rtype.noPackHeld "Comparable" t; pure (.bool (← typeInfo t).comparable))) Tryz.func482 (by kernel_rfl) (by kernel_rfl) (by kernel_rfl) (by kernel_rfl) args w
theorem as_ee (x : Int) (n0 : Int) (tb a0 : Nat) (l : List ByteArray) (v : Value) (w : World) (hc : Chn w l (.iface 51 (.int .i64 x)) v) (ha : objAt w a0 = some (.cells #[.pointer (some ⟨tb, 0, none⟩)] 155)) (ht : objAt w tb = some (.cells #[.int .i64 n0] 51)) :
  Calls Tryz.prog 129 #[v, .iface 155 (.pointer (some ⟨tb, 0, none⟩)), .agg #[.pointer (some ⟨17, 155, none⟩), .pointer (some ⟨a0, 0, none⟩), .int .u64 150], .iface 228 (.agg #[.pointer (some ⟨17, 51, none⟩)])] w fun e w' => e = .returned (.bool true) ∧ Below (w.setRow tb #[.int .i64 x]).heap.size (w.setRow tb #[.int .i64 x]) w' := by
 have hbr : Bare (.iface 51 (.int .i64 x)) := bare_errno _
 go_enter Tryz.func129, Tryz.ntmps129
 go_wp2_with fail
 have hc1 := hc.later (Grew.alloc (Grew.refl w) (.cells #[.pointer (some ⟨17, 155, none⟩), .pointer (some ⟨a0, 0, none⟩), .int .u64 150] 184))
 have fb : objAt (w.alloc (.cells #[.pointer (some ⟨17, 155, none⟩), .pointer (some ⟨a0, 0, none⟩), .int .u64 150] 184)) w.heap.size = some (.cells #[.pointer (some ⟨17, 155, none⟩), .pointer (some ⟨a0, 0, none⟩), .int .u64 150] 184) := objAt_alloc_at _ _ _ rfl
 have ha1 := keep_alloc (.cells #[.pointer (some ⟨17, 155, none⟩), .pointer (some ⟨a0, 0, none⟩), .int .u64 150] 184) ha
 have ht1 := keep_alloc (.cells #[.pointer (some ⟨17, 155, none⟩), .pointer (some ⟨a0, 0, none⟩), .int .u64 150] 184) ht
 have lta := lt_of_objAt ht
 have HE : Hid (∀ w1, w1 = w.alloc (.cells #[.pointer (some ⟨17, 155, none⟩), .pointer (some ⟨a0, 0, none⟩), .int .u64 150] 184) → w1 = w.alloc (.cells #[.pointer (some ⟨17, 155, none⟩), .pointer (some ⟨a0, 0, none⟩), .int .u64 150] 184)) := fun _ h => h
 obtain ⟨w1, hw1⟩ : ∃ w1, w1 = w.alloc (.cells #[.pointer (some ⟨17, 155, none⟩), .pointer (some ⟨a0, 0, none⟩), .int .u64 150] 184) := ⟨_, rfl⟩
 rw [← hw1] at hc1 fb ha1 ht1 ⊢
 clear hc ha ht
 have lfb := lt_of_objAt fb
 have hHW : Hid (w1 = w.alloc (.cells #[.pointer (some ⟨17, 155, none⟩), .pointer (some ⟨a0, 0, none⟩), .int .u64 150] 184)) := hw1
 clear hw1 HE
 go_loopw [0, 9, 10, 11, 12, 14, 15] (fun v _ _ _ _ _ _ wr => wr = w1 ∧ ∃ l v0, v0 = v ∧ Chn w1 l (.iface 51 (.int .i64 x)) v0) (fun v _ _ _ _ _ _ _ => deep w1 v)
 case atStart => exact ⟨rfl, l, _, rfl, hc1⟩
 case round =>
  obtain ⟨rfl, l, v0, rfl, hc⟩ := hrel
  cases l with
  | nil =>
   obtain rfl : v0 = _ := hc
   have el := elemV_pe ⟨a0, 0, none⟩ ⟨tb, 0, none⟩ wr (by rw [cell_obj, ha1]; exact cellOf_cells _ _ _ _)
   have st := set_e ⟨tb, 0, none⟩ ⟨wr.heap.size, 0, none⟩ x (.int .i64 n0) (wr.alloc (.cells #[.int .i64 x] 51)) (by rw [cell_obj, objAt_alloc_at _ _ _ rfl]; exact cellOf_cells _ _ _ _) (by rw [cell_obj, keep_alloc _ ht1]; exact cellOf_cells _ _ _ _) (by rw [frozen_obj, keep_alloc _ ht1]; exact frozenOf_cells _ _ _)
   rw [setCell_eq_setRow _ tb 0 _ _ _ _ (keep_alloc _ ht1)] at st
   go_wp2
   go_ret
   exact ⟨rfl, by rw [setRow_alloc_past _ _ _ _ (lt_of_objAt ht1), hHW.out, setRow_alloc_past _ _ _ _ lta]; exact Grew.alloc (Grew.alloc (Grew.refl _) _) _⟩
  | cons s l =>
   obtain ⟨g, u, rfl, hg, hcu⟩ := hc
   have hd : deep wr u < deep wr (.iface 60 (.pointer (some ⟨g, 0, none⟩))) := by
    rw [deep_eq hbr hcu, deep_eq hbr (show Chn wr (s :: l) _ _ from ⟨g, u, rfl, hg, hcu⟩), List.length_cons]
    omega
   obtain ⟨tu, y, rfl⟩ : ∃ tu y, u = .iface tu y := by
    cases l with
    | nil => exact ⟨_, _, hcu⟩
    | cons s' l => obtain ⟨g', u', e, _⟩ := hcu; exact ⟨_, _, e⟩
   go_wp2_with (go_at_call 458; refine (funwrap_any g s _ _ hg).mono ?_; rintro e w' ⟨rfl, rfl⟩)
   go_roundw
   case rel => first | exact ⟨rfl, l, _, rfl, hcu⟩ | exact ⟨trivial, l, _, rfl, hcu⟩ | ((repeat' apply Exists.intro) <;> first | exact ⟨⟨trivial, l, _, rfl, hcu⟩, rfl⟩ | exact ⟨⟨rfl, l, _, rfl, hcu⟩, rfl⟩ | exact undef)
   case measure => exact hd
end Go.Proofs.YtdoolhbmekahdaaGreatDoor
namespace Go.Proofs.YtdoolhbmekahdaaGreatDoor
open Go.RowKit Go.Extern
set_option linter.unusedVariables false
set_option linter.unusedSimpArgs false
theorem As_ee (x n0 : Int) (l : List ByteArray) (v : Value) (tb : Nat) (w : World) (hE : EtAt w) (hc : Chn w l (.iface 51 (.int .i64 x)) v) (ht : objAt w tb = some (.cells #[.int .i64 n0] 51)) :
  Calls Tryz.prog 88 #[v, .iface 155 (.pointer (some ⟨tb, 0, none⟩))] w fun e w' => e = .returned (.bool true) ∧ Below (w.setRow tb #[.int .i64 x]).heap.size (w.setRow tb #[.int .i64 x]) w' := by
 have HC : Hid (∀ (a0 : Nat) (w1 : World), Below w.heap.size w w1 → objAt w1 a0 = some (.cells #[.pointer (some ⟨tb, 0, none⟩)] 155) → objAt w1 tb = some (.cells #[.int .i64 n0] 51) → Calls Tryz.prog 129 #[v, .iface 155 (.pointer (some ⟨tb, 0, none⟩)), .agg #[.pointer (some ⟨17, 155, none⟩), .pointer (some ⟨a0, 0, none⟩), .int .u64 150], .iface 228 (.agg #[.pointer (some ⟨17, 51, none⟩)])] w1 fun e w' => e = .returned (.bool true) ∧ Below (w1.setRow tb #[.int .i64 x]).heap.size (w1.setRow tb #[.int .i64 x]) w') := fun a0 w1 hb ha ht => as_ee x n0 tb a0 l v w1 (hc.later hb) ha ht
 obtain ⟨tE, fE, hE1⟩ := hE
 have hE2 := keep_alloc (.cells #[.pointer (some ⟨17, 155, none⟩), .pointer (some ⟨w.heap.size, 0, none⟩), .int .u64 150] 184) (keep_alloc (.cells #[.pointer (some ⟨tb, 0, none⟩)] 155) hE1)
 have ht2 := keep_alloc (.cells #[.pointer (some ⟨17, 155, none⟩), .pointer (some ⟨w.heap.size, 0, none⟩), .int .u64 150] 184) (keep_alloc (.cells #[.pointer (some ⟨tb, 0, none⟩)] 155) ht)
 have ha2 : objAt ((w.alloc (.cells #[.pointer (some ⟨tb, 0, none⟩)] 155)).alloc (.cells #[.pointer (some ⟨17, 155, none⟩), .pointer (some ⟨w.heap.size, 0, none⟩), .int .u64 150] 184)) w.heap.size = some (.cells #[.pointer (some ⟨tb, 0, none⟩)] 155) := keep_alloc _ (objAt_alloc_at _ _ _ rfl)
 have fb2 : objAt ((w.alloc (.cells #[.pointer (some ⟨tb, 0, none⟩)] 155)).alloc (.cells #[.pointer (some ⟨17, 155, none⟩), .pointer (some ⟨w.heap.size, 0, none⟩), .int .u64 150] 184)) (w.heap.size + 1) = some (.cells #[.pointer (some ⟨17, 155, none⟩), .pointer (some ⟨w.heap.size, 0, none⟩), .int .u64 150] 184) := objAt_alloc_at _ _ _ (by simp)
 have lta := lt_of_objAt ht
 have lE := lt_of_objAt hE1
 have hb2 : Below w.heap.size w ((w.alloc (.cells #[.pointer (some ⟨tb, 0, none⟩)] 155)).alloc (.cells #[.pointer (some ⟨17, 155, none⟩), .pointer (some ⟨w.heap.size, 0, none⟩), .int .u64 150] 184)) := Grew.alloc (Grew.alloc (Grew.refl w) _) _
 have n8 := isNil_pe ⟨w.heap.size, 0, none⟩ ⟨tb, 0, none⟩ ((w.alloc (.cells #[.pointer (some ⟨tb, 0, none⟩)] 155)).alloc (.cells #[.pointer (some ⟨17, 155, none⟩), .pointer (some ⟨w.heap.size, 0, none⟩), .int .u64 150] 184)) (by rw [cell_obj, ha2]; exact cellOf_cells _ _ _ _)
 clear hE1
 obtain ⟨tv, yv, rfl⟩ : ∃ t y, v = .iface t y := by
  cases l with
  | nil => exact ⟨_, _, hc⟩
  | cons s' l => obtain ⟨g', u', e, _⟩ := hc; exact ⟨_, _, e⟩
 clear hc
 go_enter Tryz.func88, Tryz.ntmps88
 go_wp2_with fail
 refine (HC.out _ _ hb2 ha2 ht2).mono ?_
 rintro e w' ⟨rfl, hb⟩
 go_wp2
 go_ret
 exact ⟨rfl, by rw [setRow_alloc_past _ _ _ _ (by simp; omega), setRow_alloc_past _ _ _ _ lta] at hb; exact Grew.trans (Grew.alloc (Grew.alloc (Grew.refl _) _) _) hb⟩
end Go.Proofs.YtdoolhbmekahdaaGreatDoor
namespace Go.Proofs.YtdoolhbmekahdaaGreatDoor
open Go.RowKit Go.Extern
set_option linter.unusedVariables false
set_option linter.unusedSimpArgs false
@[go_sem] theorem comparable_e2 (w : World) : ((ReflectliteType.method fun t => do Rtype.noPackHeld "Comparable" t; (fun a => Value.bool a.comparable) <$> typeInfo t) #[.agg #[.pointer (some ⟨17, 51, none⟩)]]).run Tryz.prog w = .ok (.bool true) w := by kernel_rfl
@[go_sem] theorem eql_pe (a b : Value) (w : World) : (binOp .eql 31 (.iface 60 a) (.iface 51 b)).run Tryz.prog w = .ok (.bool false) w := run_eql_iface_types _ _ _ _ Tryz.underlying31 (by decide) w
@[go_sem] theorem eql_se (a b : Value) (w : World) : (binOp .eql 31 (.iface 315 a) (.iface 51 b)).run Tryz.prog w = .ok (.bool false) w := run_eql_iface_types _ _ _ _ Tryz.underlying31 (by decide) w
@[go_sem] theorem eql_ee (a b : Int) (w : World) : (binOp .eql 31 (.iface 51 (.int .i64 a)) (.iface 51 (.int .i64 b))).run Tryz.prog w = .ok (.bool (decide (a = b))) w := by
 have e1 : Tryz.prog.underlying 51 = _ := Tryz.underlying51
 have e2 : Tryz.prog.underlying 31 = _ := Tryz.underlying31
 obtain ⟨i, hi, hc⟩ : ∃ i, Tryz.prog.info? 51 = some i ∧ i.comparable = true := ⟨(Tryz.prog.info? 51).get (by kernel_rfl), by kernel_rfl, by kernel_rfl⟩
 have h : ∀ d : Nat, (Op.equalIn (d + 2) 31 (.iface 51 (.int .i64 a)) (.iface 51 (.int .i64 b))).run Tryz.prog w = .ok (decide (a = b)) w := fun d => by
  simp [Op.equalIn, run_underlying e1, run_underlying e2, typeInfo, hi, hc]
  by_cases hab : a = b <;> simp [hab]
 simp only [binOp]
 simp [Op.equal, Op.maxDepth, h 9998]
theorem is_e (x : Int) (e0 : Int) (l : List ByteArray) (v : Value) (w : World) (hc1 : Chn w l (.iface 51 (.int .i64 x)) v) :
  Calls Tryz.prog 360 #[v, .iface 51 (.int .i64 e0), .bool true] w fun e w' => e = .returned (.bool (decide (x = e0))) ∧ w' = w := by
 have hbr : Bare (.iface 51 (.int .i64 x)) := bare_errno _
 go_enter Tryz.func360, Tryz.ntmps360
 go_wp2_with fail
 go_loopw [0, 7, 8, 9, 10, 12, 13] (fun v _ _ _ _ _ _ wr => wr = w ∧ ∃ l v0, v0 = v ∧ Chn w l (.iface 51 (.int .i64 x)) v0) (fun v _ _ _ _ _ _ _ => deep w v)
 case atStart => exact ⟨rfl, l, _, rfl, hc1⟩
 case round =>
  obtain ⟨rfl, l, v0, rfl, hc⟩ := hrel
  cases l with
  | nil =>
   obtain rfl : v0 = _ := hc
   by_cases hx : x = e0
   ·subst hx
    go_wp2
    go_ret
    exact ⟨by simp, rfl⟩
   ·go_wp2
    go_ret
    exact ⟨by simp [hx], rfl⟩
  | cons s l =>
   obtain ⟨g, u, rfl, hg, hcu⟩ := hc
   have hd : deep wr u < deep wr (.iface 60 (.pointer (some ⟨g, 0, none⟩))) := by
    rw [deep_eq hbr hcu, deep_eq hbr (show Chn wr (s :: l) _ _ from ⟨g, u, rfl, hg, hcu⟩), List.length_cons]
    omega
   obtain ⟨tu, y, rfl⟩ : ∃ tu y, u = .iface tu y := by
    cases l with
    | nil => exact ⟨_, _, hcu⟩
    | cons s' l => obtain ⟨g', u', e, _⟩ := hcu; exact ⟨_, _, e⟩
   go_wp2_with (go_at_call 458; refine (funwrap_any g s _ _ hg).mono ?_; rintro e w' ⟨rfl, rfl⟩)
   go_roundw
   case rel => first | exact ⟨rfl, l, _, rfl, hcu⟩ | exact ⟨trivial, l, _, rfl, hcu⟩ | ((repeat' apply Exists.intro) <;> first | exact ⟨⟨trivial, l, _, rfl, hcu⟩, rfl⟩ | exact ⟨⟨rfl, l, _, rfl, hcu⟩, rfl⟩ | exact undef)
   case measure => exact hd
theorem Is_e (x : Int) (e0 : Int) (l : List ByteArray) (v : Value) (w : World) (hc : Chn w l (.iface 51 (.int .i64 x)) v) :
  Calls Tryz.prog 280 #[v, .int .i64 e0] w fun e w' => e = .returned (.bool (decide (x = e0))) ∧ w' = w := by
 have H := is_e x e0 l v w hc
 obtain ⟨tv, yv, rfl⟩ : ∃ t y, v = .iface t y := by
  cases l with
  | nil => exact ⟨_, _, hc⟩
  | cons s' l => obtain ⟨g', u', e, _⟩ := hc; exact ⟨_, _, e⟩
 clear hc
 have H2 : Calls Tryz.prog 334 #[.iface tv yv, .iface 51 (.int .i64 e0)] w fun e w' => e = .returned (.bool (decide (x = e0))) ∧ w' = w := by
  go_enter Tryz.func334, Tryz.ntmps334
  go_wp2_with (go_at_call 360; refine H.mono ?_; rintro e w' ⟨rfl, rfl⟩)
  go_ret
  exact ⟨rfl, rfl⟩
 clear H
 go_enter Tryz.func280, Tryz.ntmps280
 go_wp2_with (go_at_call 334; refine H2.mono ?_; rintro e w' ⟨rfl, rfl⟩)
 go_ret
 exact ⟨rfl, rfl⟩
theorem Code_e (x : Int) (l : List ByteArray) (v : Value) (w : World) (hE : EtAt w) (hc : Chn w l (.iface 51 (.int .i64 x)) v) :
  Calls Tryz.prog 48 #[v] w fun e w' => e = .returned (.int .i64 (x)) ∧ Below w.heap.size w w' := by
 have C := As_ee x 0 l v _ _ (hE.later (Grew.alloc (Grew.refl w) _)) (hc.later (Grew.alloc (Grew.refl w) _)) (objAt_alloc_at _ _ _ rfl)
 have hb : Below w.heap.size w (w.alloc (.cells #[.int .i64 0] 51)) := Grew.alloc (Grew.refl w) _
 go_enter Tryz.func48, Tryz.ntmps48
 go_wp2_with fail
 refine C.mono ?_
 rintro e w' ⟨rfl, hb1⟩
 rw [setRow_alloc_at _ _ _ _ _ rfl] at hb1
 have ft := keep_below hb1 (objAt_alloc_at w (.cells #[.int .i64 x] 51) _ rfl)
 have lft := lt_of_objAt ft
 go_wp2
 go_ret
 exact ⟨rfl, Grew.trans (Grew.alloc (Grew.refl w) _) hb1⟩
end Go.Proofs.YtdoolhbmekahdaaGreatDoor
namespace Go.Proofs.YtdoolhbmekahdaaGreatDoor
open Go.ChangeShapes Go.WideShapes Go.ChangeAt Go.RowKit
set_option linter.unusedVariables false
set_option linter.unusedSimpArgs false
theorem laid3_of {W : World} (h : laidMetH Tryz.prog [("errors.errorType", Rows.laid_errors_errorType), ("sapwood/sha.square", Rows.laid_sapwood_sha_square), ("sapwood/sha.cube", Rows.laid_sapwood_sha_cube)] W) : Tabs W ∧ EtAt W := by
 refine ⟨tabs_of_laid (laidMetH.filter (fun x => x.1 != "errors.errorType") h), ?_⟩
 have h2 : ∃ name u ty, Rows.laid_errors_errorType.handleName? (H := Unit) = some name ∧ (Tryz.prog.cutTypes.find? (·.1 == "internal/reflectlite.rtype")).map (·.2) = some u ∧ ty < Tryz.prog.types.size ∧ Tryz.prog.rowNamed ty name = true ∧ W.var? Tryz.prog "errors.errorType" = some #[.iface u (.agg #[typeHandle Tryz.prog ty])] :=
  (laidMetH_iff.1 h).2 ("errors.errorType", Rows.laid_errors_errorType) (List.mem_filter.2 ⟨List.mem_cons_self .., rfl⟩)
 obtain ⟨name, u, ty, e1, e2, e3, e4, e5⟩ := h2
 have en : name = [101, 114, 114, 111, 114] := (Option.some.inj e1).symm
 subst en
 have rt : (Tryz.prog.cutTypes.find? (·.1 == "internal/reflectlite.rtype")).map (·.2) = some 228 := by kernel_rfl
 obtain rfl := Option.some.inj (rt.symm.trans e2)
 have one : ((List.range Tryz.prog.types.size).filter fun t => Tryz.prog.rowNamed t [101, 114, 114, 111, 114]) = [31] := by kernel_rfl
 have hm : ty ∈ (List.range Tryz.prog.types.size).filter fun t => Tryz.prog.rowNamed t [101, 114, 114, 111, 114] := List.mem_filter.2 ⟨List.mem_range.2 e3, e4⟩
 rw [one] at hm
 obtain rfl := List.mem_singleton.1 hm
 have hh : typeHandle Tryz.prog 31 = .pointer (some ⟨17, 31, none⟩) := by kernel_rfl
 rw [hh] at e5
 have G0 : Tryz.prog.globalNamed "errors.errorType" = some 2 := by kernel_rfl
 unfold World.var? at e5
 rw [G0] at e5
 simp only [Option.bind_some] at e5
 split at e5
 ·rename_i c t fr hx
  obtain rfl := Option.some.inj e5
  exact ⟨t, fr, hx⟩
 ·cases e5
noncomputable def hw0 (os : Os) : World :=
 let w0 := World.holding Tryz.prog os ⟨#[], #[], []⟩
 { w0 with heap := w0.heap.modify 2 fun
   | .cells _ t frozen => .cells #[.iface 228 (.agg #[.pointer (some ⟨17, 31, none⟩)])] t frozen
   | o => o }
end Go.Proofs.YtdoolhbmekahdaaGreatDoor
namespace Go.Proofs.YtdoolhbmekahdaaGreatDoor
open Go.ChangeShapes Go.WideShapes Go.ChangeAt Go.RowKit
set_option linter.unusedVariables false
set_option linter.unusedSimpArgs false
end Go.Proofs.YtdoolhbmekahdaaGreatDoor
