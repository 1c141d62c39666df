/-
For every input the law FaultWraps of layer 15 returns true, and each argument reads afterwards as it read before; the listed tables of package sha and the listed handle of errors' type are tied to the program's text.
-/
import Derived.Test.YtonmancgalencaaGreatDoorMem
import Derived.WalkKit
import Derived.LaidEql
import Derived.Stop.Asserts
import Derived.RowKitTokens
import Derived.Test.YtonmancgalencaaGreatDoorTrk
import Derived.Stop.Joined
import Derived.Test.YtonmancgalencaaGreatDoorBu
import Derived.Test.YtonmancgalencaaGreatDoorSi
import Derived.Test.YtonmancgalencaaGreatDoorL13
import Derived.Test.YtonmancgalencaaGreatDoorR11
import Derived.Test.YtonmancgalencaaGreatDoorTb
import Derived.LaidHandle
import Derived.LaidSub
import Derived.Test.YtonmancgalencaaGreatDoorAw
import Derived.Test.YtonmancgalencaaGreatDoorV14
namespace Go.Proofs.YtonmancgalencaaGreatDoor
open Go.RowKit Go.Extern
set_option linter.unusedVariables false
set_option linter.unusedSimpArgs false

@[go_sem] theorem rm_Kind (f : Nat) (h : Value) (w : World) : (Go.method (f + 1) 174 (.agg #[h]) "Kind").run Tryz.prog w = .ok (211, h) w := by kernel_rfl
@[go_sem] theorem rm_Elem (f : Nat) (h : Value) (w : World) : (Go.method (f + 1) 174 (.agg #[h]) "Elem").run Tryz.prog w = .ok (224, .agg #[h]) w := by kernel_rfl
@[go_sem] theorem rm_Implements (f : Nat) (h : Value) (w : World) : (Go.method (f + 1) 174 (.agg #[h]) "Implements").run Tryz.prog w = .ok (225, .agg #[h]) w := by kernel_rfl
@[go_sem] theorem rm_AssignableTo (f : Nat) (h : Value) (w : World) : (Go.method (f + 1) 174 (.agg #[h]) "AssignableTo").run Tryz.prog w = .ok (222, .agg #[h]) w := by kernel_rfl
@[go_sem] theorem rm_Comparable (f : Nat) (h : Value) (w : World) : (Go.method (f + 1) 174 (.agg #[h]) "Comparable").run Tryz.prog w = .ok (223, .agg #[h]) w := by kernel_rfl
@[go_sem] theorem em_Error (f : Nat) (v : Value) (w : World) : (Go.method (f + 1) 48 v "Error").run Tryz.prog w = .ok (215, v) w := by kernel_rfl
@[go_sem] theorem fm_Error (f : Nat) (v : Value) (w : World) : (Go.method (f + 1) 61 v "Error").run Tryz.prog w = .ok (30, v) w := by kernel_rfl
@[go_sem] theorem fm_Unwrap (f : Nat) (v : Value) (w : World) : (Go.method (f + 1) 61 v "Unwrap").run Tryz.prog w = .ok (31, v) w := by kernel_rfl
@[go_sem] theorem ta_as_e (v : Value) (xT : TypeId) (w : World) : (Instr.typeAssert (.iface 48 v) xT 178 true).run Tryz.prog w = .ok (.tuple #[.nilIface, .bool false]) w := run_typeAssert_lacksB Tryz.underlying178 (by kernel_rfl) (by kernel_rfl) v xT w
@[go_sem] theorem ta_as_f (v : Value) (xT : TypeId) (w : World) : (Instr.typeAssert (.iface 61 v) xT 178 true).run Tryz.prog w = .ok (.tuple #[.nilIface, .bool false]) w := run_typeAssert_lacksB Tryz.underlying178 (by kernel_rfl) (by kernel_rfl) v xT w
@[go_sem] theorem ta_as_s (v : Value) (xT : TypeId) (w : World) : (Instr.typeAssert (.iface 139 v) xT 178 true).run Tryz.prog w = .ok (.tuple #[.nilIface, .bool false]) w := run_typeAssert_lacksB Tryz.underlying178 (by kernel_rfl) (by kernel_rfl) v xT w
@[go_sem] theorem ta_un_e (v : Value) (xT : TypeId) (w : World) : (Instr.typeAssert (.iface 48 v) xT 181 true).run Tryz.prog w = .ok (.tuple #[.nilIface, .bool false]) w := run_typeAssert_lacksB Tryz.underlying181 (by kernel_rfl) (by kernel_rfl) v xT w
@[go_sem] theorem ta_un_f (v : Value) (xT : TypeId) (w : World) : (Instr.typeAssert (.iface 61 v) xT 181 true).run Tryz.prog w = .ok (.tuple #[.iface 61 v, .bool true]) w := run_typeAssert_hasB Tryz.underlying181 (by kernel_rfl) v xT w
@[go_sem] theorem ta_un_s (v : Value) (xT : TypeId) (w : World) : (Instr.typeAssert (.iface 139 v) xT 181 true).run Tryz.prog w = .ok (.tuple #[.nilIface, .bool false]) w := run_typeAssert_lacksB Tryz.underlying181 (by kernel_rfl) (by kernel_rfl) v xT w
@[go_sem] theorem ta_us_e (v : Value) (xT : TypeId) (w : World) : (Instr.typeAssert (.iface 48 v) xT 182 true).run Tryz.prog w = .ok (.tuple #[.nilIface, .bool false]) w := run_typeAssert_lacksB Tryz.underlying182 (by kernel_rfl) (by kernel_rfl) v xT w
@[go_sem] theorem ta_us_f (v : Value) (xT : TypeId) (w : World) : (Instr.typeAssert (.iface 61 v) xT 182 true).run Tryz.prog w = .ok (.tuple #[.nilIface, .bool false]) w := run_typeAssert_lacksB Tryz.underlying182 (by kernel_rfl) (by kernel_rfl) v xT w
@[go_sem] theorem ta_us_s (v : Value) (xT : TypeId) (w : World) : (Instr.typeAssert (.iface 139 v) xT 182 true).run Tryz.prog w = .ok (.tuple #[.nilIface, .bool false]) w := run_typeAssert_lacksB Tryz.underlying182 (by kernel_rfl) (by kernel_rfl) v xT w
@[go_sem] theorem ta_is_e (v : Value) (xT : TypeId) (w : World) : (Instr.typeAssert (.iface 48 v) xT 194 true).run Tryz.prog w = .ok (.tuple #[.nilIface, .bool false]) w := run_typeAssert_lacksB Tryz.underlying194 (by kernel_rfl) (by kernel_rfl) v xT w
@[go_sem] theorem ta_is_f (v : Value) (xT : TypeId) (w : World) : (Instr.typeAssert (.iface 61 v) xT 194 true).run Tryz.prog w = .ok (.tuple #[.nilIface, .bool false]) w := run_typeAssert_lacksB Tryz.underlying194 (by kernel_rfl) (by kernel_rfl) v xT w
@[go_sem] theorem ta_is_s (v : Value) (xT : TypeId) (w : World) : (Instr.typeAssert (.iface 139 v) xT 194 true).run Tryz.prog w = .ok (.tuple #[.nilIface, .bool false]) w := run_typeAssert_lacksB Tryz.underlying194 (by kernel_rfl) (by kernel_rfl) v xT w
@[go_sem] theorem ta_ff (v : Value) (xT : TypeId) (w : World) : (Instr.typeAssert (.iface 61 v) xT 61 true).run Tryz.prog w = .ok (.tuple #[v, .bool true]) w := by kernel_rfl
@[go_sem] theorem ta_fe (v : Value) (xT : TypeId) (w : World) : (Instr.typeAssert (.iface 48 v) xT 61 true).run Tryz.prog w = .ok (.tuple #[.pointer none, .bool false]) w := by kernel_rfl
@[go_sem] theorem ta_fs (v : Value) (xT : TypeId) (w : World) : (Instr.typeAssert (.iface 139 v) xT 61 true).run Tryz.prog w = .ok (.tuple #[.pointer none, .bool false]) w := by kernel_rfl
@[go_sem] theorem tyof_e (v : Value) (w : World) : (ReflectliteType.typeOf #[.iface 48 v]).run Tryz.prog w = .ok (.iface 174 (.agg #[.pointer (some ⟨4, 48, none⟩)])) w := by kernel_rfl
@[go_sem] theorem asg_e_e (w : World) : (ReflectliteType.relation "AssignableTo" ReflectliteType.assignableTo #[.agg #[.pointer (some ⟨4, 48, none⟩)], .iface 174 (.agg #[.pointer (some ⟨4, 48, none⟩)])]).run Tryz.prog w = .ok (.bool true) w := by kernel_rfl
@[go_sem] theorem asg_e_f (w : World) : (ReflectliteType.relation "AssignableTo" ReflectliteType.assignableTo #[.agg #[.pointer (some ⟨4, 48, none⟩)], .iface 174 (.agg #[.pointer (some ⟨4, 61, none⟩)])]).run Tryz.prog w = .ok (.bool false) w := by kernel_rfl
@[go_sem] theorem tyof_f (v : Value) (w : World) : (ReflectliteType.typeOf #[.iface 61 v]).run Tryz.prog w = .ok (.iface 174 (.agg #[.pointer (some ⟨4, 61, none⟩)])) w := by kernel_rfl
@[go_sem] theorem asg_f_e (w : World) : (ReflectliteType.relation "AssignableTo" ReflectliteType.assignableTo #[.agg #[.pointer (some ⟨4, 61, none⟩)], .iface 174 (.agg #[.pointer (some ⟨4, 48, none⟩)])]).run Tryz.prog w = .ok (.bool false) w := by kernel_rfl
@[go_sem] theorem asg_f_f (w : World) : (ReflectliteType.relation "AssignableTo" ReflectliteType.assignableTo #[.agg #[.pointer (some ⟨4, 61, none⟩)], .iface 174 (.agg #[.pointer (some ⟨4, 61, none⟩)])]).run Tryz.prog w = .ok (.bool true) w := by kernel_rfl
@[go_sem] theorem tyof_s (v : Value) (w : World) : (ReflectliteType.typeOf #[.iface 139 v]).run Tryz.prog w = .ok (.iface 174 (.agg #[.pointer (some ⟨4, 139, none⟩)])) w := by kernel_rfl
@[go_sem] theorem asg_s_e (w : World) : (ReflectliteType.relation "AssignableTo" ReflectliteType.assignableTo #[.agg #[.pointer (some ⟨4, 139, none⟩)], .iface 174 (.agg #[.pointer (some ⟨4, 48, none⟩)])]).run Tryz.prog w = .ok (.bool false) w := by kernel_rfl
@[go_sem] theorem asg_s_f (w : World) : (ReflectliteType.relation "AssignableTo" ReflectliteType.assignableTo #[.agg #[.pointer (some ⟨4, 139, none⟩)], .iface 174 (.agg #[.pointer (some ⟨4, 61, none⟩)])]).run Tryz.prog w = .ok (.bool false) w := by kernel_rfl
@[go_sem] theorem comparable_e (w : World) : ((ReflectliteType.method fun t => do Rtype.noPackHeld "Comparable" t; pure (.bool (← typeInfo t).comparable)) #[.agg #[.pointer (some ⟨4, 48, none⟩)]]).run Tryz.prog w = .ok (.bool true) w := by kernel_rfl
@[go_sem] theorem kind_pe (w : World) : ((ReflectliteType.abiMethod fun t => (fun a : Nat => Value.int IntKind.u8 (a : Int)) <$> Rtype.kind t) #[.pointer (some ⟨4, 59, none⟩)]).run Tryz.prog w = .ok (.int .u8 22) w := by kernel_rfl
@[go_sem] theorem kind_ppf (w : World) : ((ReflectliteType.abiMethod fun t => (fun a : Nat => Value.int IntKind.u8 (a : Int)) <$> Rtype.kind t) #[.pointer (some ⟨4, 126, none⟩)]).run Tryz.prog w = .ok (.int .u8 22) w := by kernel_rfl
@[go_sem] theorem kind_e (w : World) : ((ReflectliteType.abiMethod fun t => (fun a : Nat => Value.int IntKind.u8 (a : Int)) <$> Rtype.kind t) #[.pointer (some ⟨4, 48, none⟩)]).run Tryz.prog w = .ok (.int .u8 2) w := by kernel_rfl
@[go_sem] theorem kind_f (w : World) : ((ReflectliteType.abiMethod fun t => (fun a : Nat => Value.int IntKind.u8 (a : Int)) <$> Rtype.kind t) #[.pointer (some ⟨4, 61, none⟩)]).run Tryz.prog w = .ok (.int .u8 22) w := by kernel_rfl
@[go_sem] theorem vof_e (n : Int) (w : World) : (ReflectliteValue.unpack (.iface 48 (.int .i64 n))).run Tryz.prog w = .ok (.agg #[.pointer (some ⟨4, 48, none⟩), .pointer (some ⟨w.heap.size, 0, none⟩), .int .u64 130]) (w.alloc (.cells #[.int .i64 n] 48)) := by kernel_rfl
theorem rlm (z : Sem Value) (f : TypeId → Addr → Nat → Nat → Sem Value) (v : Value) :
    ReflectliteValue.method z f #[v] = (do match ← ReflectliteValue.parts v with | none => z | some (t, a, fl) => f t a fl (fl % 32)) := rfl
theorem rls (v x : Value) : ReflectliteValue.set #[v, x] = (do
    let (some (dst, a, fl), some (src, b, _)) := (← ReflectliteValue.parts v, ← ReflectliteValue.parts x)
      | unsupported (.noEntry "extern/(internal/reflectlite.Value).Set.zeroValue")
    if fl / ReflectliteValue.flagAddr % 2 == 0 then unsupported (.noEntry "extern/(internal/reflectlite.Value).Set.unaddressable")
    let val ← loadVar src b
    if ← Rtype.directlyAssignable dst src then storeVar dst a val
    else if ← Rtype.implements dst src then
      if (← Rtype.kind src) == 20 then
        match val with
        | .nilIface => unsupported (.noEntry "extern/reflectlite: a nil value of one interface type handed on as a value of another")
        | _ => storeVar dst a val
      else storeVar dst a (.iface src val)
    else panicString ("reflectlite.Set: value of type " ++ (← Rtype.spelt src) ++ " is not assignable to type " ++ (← Rtype.spelt dst))
    pure (.tuple #[])) := rfl
@[go_sem] theorem vof_pe (t : Addr) (w : World) : (ReflectliteValue.unpack (.iface 59 (.pointer (some t)))).run Tryz.prog w = .ok (.agg #[.pointer (some ⟨4, 59, none⟩), .pointer (some ⟨w.heap.size, 0, none⟩), .int .u64 150]) (w.alloc (.cells #[.pointer (some t)] 59)) := by kernel_rfl
@[go_sem] theorem vty_pe (a : Addr) (w : World) : (ReflectliteValue.methodAny (ReflectliteValue.valueError "reflectlite.Value.Type" 0) (fun t _ _ _ => ReflectliteType.toType t) #[.agg #[.pointer (some ⟨4, 59, none⟩), .pointer (some a), .int .u64 150]]).run Tryz.prog w = .ok (.iface 174 (.agg #[.pointer (some ⟨4, 59, none⟩)])) w := by kernel_rfl
@[go_sem] theorem elem_pe (w : World) : (ReflectliteType.method ReflectliteType.elem #[.agg #[.pointer (some ⟨4, 59, none⟩)]]).run Tryz.prog w = .ok (.iface 174 (.agg #[.pointer (some ⟨4, 48, none⟩)])) w := by kernel_rfl
@[go_sem] theorem impl_e (w : World) : (ReflectliteType.relation "Implements" ReflectliteType.implements_ #[.agg #[.pointer (some ⟨4, 48, none⟩)], .iface 174 (.agg #[.pointer (some ⟨4, 50, none⟩)])]).run Tryz.prog w = .ok (.bool true) w := by kernel_rfl
theorem parts_pe (a : Addr) (w : World) : (ReflectliteValue.parts (.agg #[.pointer (some ⟨4, 59, none⟩), .pointer (some a), .int .u64 150])).run Tryz.prog w = .ok (some (59, a, 150)) w := by kernel_rfl
theorem partsA_e (a : Addr) (w : World) : (ReflectliteValue.parts (.agg #[.pointer (some ⟨4, 48, none⟩), .pointer (some a), .int .u64 386])).run Tryz.prog w = .ok (some (48, a, 386)) w := by kernel_rfl
theorem parts_e (a : Addr) (w : World) : (ReflectliteValue.parts (.agg #[.pointer (some ⟨4, 48, none⟩), .pointer (some a), .int .u64 130])).run Tryz.prog w = .ok (some (48, a, 130)) w := by kernel_rfl
theorem elemOf_pe (w : World) : (Rtype.elem? 59).run Tryz.prog w = .ok (some 48) w := by kernel_rfl
theorem mk_e (p : Addr) (w : World) : (ReflectliteValue.mk 48 p ReflectliteValue.flagAddr).run Tryz.prog w = .ok (.agg #[.pointer (some ⟨4, 48, none⟩), .pointer (some p), .int .u64 386]) w := by kernel_rfl
theorem direct_e (w : World) : (Rtype.directlyAssignable 48 48).run Tryz.prog w = .ok true w := by kernel_rfl
theorem isNil_pe (a p : Addr) (W : World) (ha : W.cell? a = some (.pointer (some p))) : (ReflectliteValue.method (ReflectliteValue.valueError "reflectlite.Value.IsNil" 0) ReflectliteValue.isNil #[.agg #[.pointer (some ⟨4, 59, none⟩), .pointer (some a), .int .u64 150]]).run Tryz.prog W = .ok (.bool false) W := by
  rw [rlm]
  simp only [Sem.run_bind, parts_pe, Result.andThen]
  simp [ReflectliteValue.isNil, loadVar, isAgg, underlying, Tryz.underlying59, ha, Result.andThen]
theorem elemV_pe (a p : Addr) (W : World) (ha : W.cell? a = some (.pointer (some p))) : (ReflectliteValue.method (ReflectliteValue.valueError "reflectlite.Value.Elem" 0) ReflectliteValue.elem #[.agg #[.pointer (some ⟨4, 59, none⟩), .pointer (some a), .int .u64 150]]).run Tryz.prog W = .ok (.agg #[.pointer (some ⟨4, 48, none⟩), .pointer (some p), .int .u64 386]) W := by
  rw [rlm]
  simp only [Sem.run_bind, parts_pe, Result.andThen]
  simp [ReflectliteValue.elem, loadVar, isAgg, underlying, Tryz.underlying59, ha, Result.andThen, elemOf_pe, mk_e]
theorem set_e (ta b : Addr) (n : Int) (old : Value) (W : World) (hb : W.cell? b = some (.int .i64 n)) (ht : W.cell? ta = some old) (hf : W.frozen? ta = false) : (ReflectliteValue.set #[.agg #[.pointer (some ⟨4, 48, none⟩), .pointer (some ta), .int .u64 386], .agg #[.pointer (some ⟨4, 48, none⟩), .pointer (some b), .int .u64 130]]).run Tryz.prog W = .ok (.tuple #[]) (W.setCell ta (.int .i64 n)) := by
  rw [rls]
  simp only [Sem.run_bind, partsA_e, parts_e, Result.andThen]
  simp [ReflectliteValue.flagAddr, loadVar, isAgg, underlying, Tryz.underlying48, hb, Result.andThen, direct_e, storeVar, Value.cells, storeCells, Addr.add]
  rw [run_store Tryz.prog W ta _ _ (by rfl)]
  simp [ht, hf]
@[go_sem] theorem vof_ppf (t : Addr) (w : World) : (ReflectliteValue.unpack (.iface 126 (.pointer (some t)))).run Tryz.prog w = .ok (.agg #[.pointer (some ⟨4, 126, none⟩), .pointer (some ⟨w.heap.size, 0, none⟩), .int .u64 150]) (w.alloc (.cells #[.pointer (some t)] 126)) := by kernel_rfl
@[go_sem] theorem vof_f (t : Option Addr) (w : World) : (ReflectliteValue.unpack (.iface 61 (.pointer t))).run Tryz.prog w = .ok (.agg #[.pointer (some ⟨4, 61, none⟩), .pointer (some ⟨w.heap.size, 0, none⟩), .int .u64 150]) (w.alloc (.cells #[.pointer t] 61)) := by kernel_rfl
@[go_sem] theorem vty_ppf (a : Addr) (w : World) : (ReflectliteValue.methodAny (ReflectliteValue.valueError "reflectlite.Value.Type" 0) (fun t _ _ _ => ReflectliteType.toType t) #[.agg #[.pointer (some ⟨4, 126, none⟩), .pointer (some a), .int .u64 150]]).run Tryz.prog w = .ok (.iface 174 (.agg #[.pointer (some ⟨4, 126, none⟩)])) w := by kernel_rfl
@[go_sem] theorem elem_ppf (w : World) : (ReflectliteType.method ReflectliteType.elem #[.agg #[.pointer (some ⟨4, 126, none⟩)]]).run Tryz.prog w = .ok (.iface 174 (.agg #[.pointer (some ⟨4, 61, none⟩)])) w := by kernel_rfl
@[go_sem] theorem impl_f (w : World) : (ReflectliteType.relation "Implements" ReflectliteType.implements_ #[.agg #[.pointer (some ⟨4, 61, none⟩)], .iface 174 (.agg #[.pointer (some ⟨4, 50, none⟩)])]).run Tryz.prog w = .ok (.bool true) w := by kernel_rfl
theorem parts_ppf (a : Addr) (w : World) : (ReflectliteValue.parts (.agg #[.pointer (some ⟨4, 126, none⟩), .pointer (some a), .int .u64 150])).run Tryz.prog w = .ok (some (126, a, 150)) w := by kernel_rfl
theorem partsA_f (a : Addr) (w : World) : (ReflectliteValue.parts (.agg #[.pointer (some ⟨4, 61, none⟩), .pointer (some a), .int .u64 406])).run Tryz.prog w = .ok (some (61, a, 406)) w := by kernel_rfl
theorem parts_f (a : Addr) (w : World) : (ReflectliteValue.parts (.agg #[.pointer (some ⟨4, 61, none⟩), .pointer (some a), .int .u64 150])).run Tryz.prog w = .ok (some (61, a, 150)) w := by kernel_rfl
theorem elemOf_ppf (w : World) : (Rtype.elem? 126).run Tryz.prog w = .ok (some 61) w := by kernel_rfl
theorem mk_f (p : Addr) (w : World) : (ReflectliteValue.mk 61 p ReflectliteValue.flagAddr).run Tryz.prog w = .ok (.agg #[.pointer (some ⟨4, 61, none⟩), .pointer (some p), .int .u64 406]) w := by kernel_rfl
theorem direct_f (w : World) : (Rtype.directlyAssignable 61 61).run Tryz.prog w = .ok true w := by kernel_rfl
theorem isNil_ppf (a p : Addr) (W : World) (ha : W.cell? a = some (.pointer (some p))) : (ReflectliteValue.method (ReflectliteValue.valueError "reflectlite.Value.IsNil" 0) ReflectliteValue.isNil #[.agg #[.pointer (some ⟨4, 126, none⟩), .pointer (some a), .int .u64 150]]).run Tryz.prog W = .ok (.bool false) W := by
  rw [rlm]
  simp only [Sem.run_bind, parts_ppf, Result.andThen]
  simp [ReflectliteValue.isNil, loadVar, isAgg, underlying, Tryz.underlying126, ha, Result.andThen]
theorem elemV_ppf (a p : Addr) (W : World) (ha : W.cell? a = some (.pointer (some p))) : (ReflectliteValue.method (ReflectliteValue.valueError "reflectlite.Value.Elem" 0) ReflectliteValue.elem #[.agg #[.pointer (some ⟨4, 126, none⟩), .pointer (some a), .int .u64 150]]).run Tryz.prog W = .ok (.agg #[.pointer (some ⟨4, 61, none⟩), .pointer (some p), .int .u64 406]) W := by
  rw [rlm]
  simp only [Sem.run_bind, parts_ppf, Result.andThen]
  simp [ReflectliteValue.elem, loadVar, isAgg, underlying, Tryz.underlying126, ha, Result.andThen, elemOf_ppf, mk_f]
theorem set_f (ta b : Addr) (n : Option Addr) (old : Value) (W : World) (hb : W.cell? b = some (.pointer n)) (ht : W.cell? ta = some old) (hf : W.frozen? ta = false) : (ReflectliteValue.set #[.agg #[.pointer (some ⟨4, 61, none⟩), .pointer (some ta), .int .u64 406], .agg #[.pointer (some ⟨4, 61, none⟩), .pointer (some b), .int .u64 150]]).run Tryz.prog W = .ok (.tuple #[]) (W.setCell ta (.pointer n)) := by
  rw [rls]
  simp only [Sem.run_bind, partsA_f, parts_f, Result.andThen]
  simp [ReflectliteValue.flagAddr, loadVar, isAgg, underlying, Tryz.underlying61, hb, Result.andThen, direct_f, storeVar, Value.cells, storeCells, Addr.add]
  rw [run_store Tryz.prog W ta _ _ (by rfl)]
  simp [ht, hf]
end Go.Proofs.YtonmancgalencaaGreatDoor
namespace Go.Proofs.YtonmancgalencaaGreatDoor
open Go.RowKit Go.Extern
set_option linter.unusedVariables false
set_option linter.unusedSimpArgs false

/-- notes ahead of an error, one below the other -/
def Chn (w : World) : List ByteArray → Value → Value → Prop
  | [], b, v => v = b
  | s :: l, b, v => ∃ g u, v = .iface 61 (.pointer (some ⟨g, 0, none⟩)) ∧ objAt w g = some (.cells #[.string s, u] 64) ∧ Chn w l b u
theorem Chn.later {w w' : World} (hb : Below w.heap.size w w') : ∀ {l : List ByteArray} {b v : Value}, Chn w l b v → Chn w' l b v
  | [], _, _, h => h
  | _ :: l, _, _, ⟨g, u, e, h, hc⟩ => ⟨g, u, e, keep_below hb h, hc.later hb⟩
/-- an error that bears no note -/
def Bare (b : Value) : Prop := ∀ x, b ≠ .iface 61 x
theorem chn_one {w : World} {b b' v : Value} (hb : Bare b) (hb' : Bare b') : ∀ {l l' : List ByteArray}, Chn w l b v → Chn w l' b' v → l.length = l'.length
  | [], [], _, _ => rfl
  | [], _ :: _, h, ⟨g, u, e, _⟩ => absurd (h.symm.trans e) (hb _)
  | _ :: _, [], ⟨g, u, e, _⟩, h => absurd (h.symm.trans e) (hb' _)
  | _ :: l, _ :: l', ⟨g, u, e, h, hc⟩, ⟨g', u', e', h', hc'⟩ => by
    rw [e] at e'
    cases e'
    rw [h] at h'
    injection h' with h'
    injection h' with h'
    obtain ⟨_, rfl⟩ : _ ∧ u = u' := by simpa using h'
    rw [List.length_cons, List.length_cons, chn_one hb hb' hc hc']
/-- how many notes there are -/
noncomputable def deep (w : World) (v : Value) : Nat := by
  classical exact if h : ∃ l b, Bare b ∧ Chn w l b v then h.choose.length else 0
theorem deep_eq {w : World} {l : List ByteArray} {b v : Value} (hb : Bare b) (h : Chn w l b v) : deep w v = l.length := by
  have hx : ∃ l b, Bare b ∧ Chn w l b v := ⟨l, b, hb, h⟩
  unfold deep
  rw [dif_pos hx]
  obtain ⟨b', h1, h2⟩ := hx.choose_spec
  exact chn_one h1 hb h2 h
theorem bare_errno (n : Value) : Bare (.iface 48 n) := fun x h => by injection h with h; exact absurd h (by decide)
theorem bare_text (n : Value) : Bare (.iface 139 n) := fun x h => by injection h with h; exact absurd h (by decide)
theorem bare_nil : Bare .nilIface := fun x h => by cases h
/-- the type that every error has -/
def EtAt (w : World) : Prop := ∃ t fr, objAt w 0 = some (.cells #[.iface 174 (.agg #[.pointer (some ⟨4, 50, none⟩)])] t fr)
theorem EtAt.later {w w' : World} (h : EtAt w) (hb : Below w.heap.size w w') : EtAt w' := by
  obtain ⟨t, fr, h⟩ := h
  exact ⟨t, fr, keep_below hb h⟩
set_option maxRecDepth 100000 in
set_option maxHeartbeats 4000000 in
theorem funwrap_any (g : Nat) (s : ByteArray) (u : Value) (w : World) (h : objAt w g = some (.cells #[.string s, u] 64)) :
    Calls Tryz.prog 31 #[.pointer (some ⟨g, 0, none⟩)] w fun e w' => e = .returned u ∧ w' = w := by
  go_enter Tryz.func31, Tryz.ntmps31
  go_wp2
  go_ret
  exact ⟨rfl, rfl⟩
@[go_sem] theorem rex_0 (args : Array Value) (w : World) : (callFunc 75 args).run Tryz.prog w = (((fun args => ReflectliteValue.unpack (args.getD 0 (.tuple #[]))) args).run Tryz.prog w).andThen fun v w' => .ok (.value v) w' := run_callFunc_extern (e := (fun args => ReflectliteValue.unpack (args.getD 0 (.tuple #[])))) Tryz.func75 (by kernel_rfl) (by kernel_rfl) (by kernel_rfl) (by kernel_rfl) args w
@[go_sem] theorem rex_1 (args : Array Value) (w : World) : (callFunc 76 args).run Tryz.prog w = (((ReflectliteValue.methodAny (ReflectliteValue.valueError "reflectlite.Value.Type" 0) (fun t _ _ _ => ReflectliteType.toType t)) args).run Tryz.prog w).andThen fun v w' => .ok (.value v) w' := run_callFunc_extern (e := (ReflectliteValue.methodAny (ReflectliteValue.valueError "reflectlite.Value.Type" 0) (fun t _ _ _ => ReflectliteType.toType t))) Tryz.func76 (by kernel_rfl) (by kernel_rfl) (by kernel_rfl) (by kernel_rfl) args w
@[go_sem] theorem rex_2 (args : Array Value) (w : World) : (callFunc 77 args).run Tryz.prog w = (((ReflectliteValue.method (ReflectliteValue.valueError "reflectlite.Value.IsNil" 0) ReflectliteValue.isNil) args).run Tryz.prog w).andThen fun v w' => .ok (.value v) w' := run_callFunc_extern (e := (ReflectliteValue.method (ReflectliteValue.valueError "reflectlite.Value.IsNil" 0) ReflectliteValue.isNil)) Tryz.func77 (by kernel_rfl) (by kernel_rfl) (by kernel_rfl) (by kernel_rfl) args w
@[go_sem] theorem rex_3 (args : Array Value) (w : World) : (callFunc 211 args).run Tryz.prog w = (((ReflectliteType.abiMethod fun t => do pure (.int .u8 (← Rtype.kind t))) args).run Tryz.prog w).andThen fun v w' => .ok (.value v) w' := run_callFunc_extern (e := (ReflectliteType.abiMethod fun t => do pure (.int .u8 (← Rtype.kind t)))) Tryz.func211 (by kernel_rfl) (by kernel_rfl) (by kernel_rfl) (by kernel_rfl) args w
@[go_sem] theorem rex_4 (args : Array Value) (w : World) : (callFunc 224 args).run Tryz.prog w = (((ReflectliteType.method ReflectliteType.elem) args).run Tryz.prog w).andThen fun v w' => .ok (.value v) w' := run_callFunc_extern (e := (ReflectliteType.method ReflectliteType.elem)) Tryz.func224 (by kernel_rfl) (by kernel_rfl) (by kernel_rfl) (by kernel_rfl) args w
@[go_sem] theorem rex_5 (args : Array Value) (w : World) : (callFunc 225 args).run Tryz.prog w = (((ReflectliteType.relation "Implements" ReflectliteType.implements_) args).run Tryz.prog w).andThen fun v w' => .ok (.value v) w' := run_callFunc_extern (e := (ReflectliteType.relation "Implements" ReflectliteType.implements_)) Tryz.func225 (by kernel_rfl) (by kernel_rfl) (by kernel_rfl) (by kernel_rfl) args w
@[go_sem] theorem rex_6 (args : Array Value) (w : World) : (callFunc 98 args).run Tryz.prog w = ((ReflectliteType.typeOf args).run Tryz.prog w).andThen fun v w' => .ok (.value v) w' := run_callFunc_extern (e := ReflectliteType.typeOf) Tryz.func98 (by kernel_rfl) (by kernel_rfl) (by kernel_rfl) (by kernel_rfl) args w
@[go_sem] theorem rex_7 (args : Array Value) (w : World) : (callFunc 222 args).run Tryz.prog w = (((ReflectliteType.relation "AssignableTo" ReflectliteType.assignableTo) args).run Tryz.prog w).andThen fun v w' => .ok (.value v) w' := run_callFunc_extern (e := (ReflectliteType.relation "AssignableTo" ReflectliteType.assignableTo)) Tryz.func222 (by kernel_rfl) (by kernel_rfl) (by kernel_rfl) (by kernel_rfl) args w
@[go_sem] theorem rex_8 (args : Array Value) (w : World) : (callFunc 100 args).run Tryz.prog w = (((ReflectliteValue.method (ReflectliteValue.valueError "reflectlite.Value.Elem" 0) ReflectliteValue.elem) args).run Tryz.prog w).andThen fun v w' => .ok (.value v) w' := run_callFunc_extern (e := (ReflectliteValue.method (ReflectliteValue.valueError "reflectlite.Value.Elem" 0) ReflectliteValue.elem)) Tryz.func100 (by kernel_rfl) (by kernel_rfl) (by kernel_rfl) (by kernel_rfl) args w
@[go_sem] theorem rex_9 (args : Array Value) (w : World) : (callFunc 101 args).run Tryz.prog w = ((ReflectliteValue.set args).run Tryz.prog w).andThen fun v w' => .ok (.value v) w' := run_callFunc_extern (e := ReflectliteValue.set) Tryz.func101 (by kernel_rfl) (by kernel_rfl) (by kernel_rfl) (by kernel_rfl) args w
@[go_sem] theorem rex_10 (args : Array Value) (w : World) : (callFunc 223 args).run Tryz.prog w = (((ReflectliteType.method fun t => do Rtype.noPackHeld "Comparable" t; pure (.bool (← typeInfo t).comparable)) args).run Tryz.prog w).andThen fun v w' => .ok (.value v) w' := run_callFunc_extern (e := (ReflectliteType.method fun t => do Rtype.noPackHeld "Comparable" t; pure (.bool (← typeInfo t).comparable))) Tryz.func223 (by kernel_rfl) (by kernel_rfl) (by kernel_rfl) (by kernel_rfl) args w
set_option maxRecDepth 100000 in
set_option maxHeartbeats 4000000 in
theorem as_ee (x : Int) (n0 : Int) (tb a0 : Nat) (l : List ByteArray) (v : Value) (w : World) (hc : Chn w l (.iface 48 (.int .i64 x)) v) (ha : objAt w a0 = some (.cells #[.pointer (some ⟨tb, 0, none⟩)] 59)) (ht : objAt w tb = some (.cells #[.int .i64 n0] 48)) :
    Calls Tryz.prog 78 #[v, .iface 59 (.pointer (some ⟨tb, 0, none⟩)), .agg #[.pointer (some ⟨4, 59, none⟩), .pointer (some ⟨a0, 0, none⟩), .int .u64 150], .iface 174 (.agg #[.pointer (some ⟨4, 48, none⟩)])] w fun e w' => e = .returned (.bool true) ∧ Below (w.setRow tb #[.int .i64 x]).heap.size (w.setRow tb #[.int .i64 x]) w' := by
  have hbr : Bare (.iface 48 (.int .i64 x)) := bare_errno _
  go_enter Tryz.func78, Tryz.ntmps78
  go_wp2_with fail
  have hc1 := hc.later (Grew.alloc (Grew.refl w) (.cells #[.pointer (some ⟨4, 59, none⟩), .pointer (some ⟨a0, 0, none⟩), .int .u64 150] 130))
  have fb : objAt (w.alloc (.cells #[.pointer (some ⟨4, 59, none⟩), .pointer (some ⟨a0, 0, none⟩), .int .u64 150] 130)) w.heap.size = some (.cells #[.pointer (some ⟨4, 59, none⟩), .pointer (some ⟨a0, 0, none⟩), .int .u64 150] 130) := objAt_alloc_at _ _ _ rfl
  have ha1 := keep_alloc (.cells #[.pointer (some ⟨4, 59, none⟩), .pointer (some ⟨a0, 0, none⟩), .int .u64 150] 130) ha
  have ht1 := keep_alloc (.cells #[.pointer (some ⟨4, 59, none⟩), .pointer (some ⟨a0, 0, none⟩), .int .u64 150] 130) ht
  have lta := lt_of_objAt ht
  have HE : Hid (∀ w1, w1 = w.alloc (.cells #[.pointer (some ⟨4, 59, none⟩), .pointer (some ⟨a0, 0, none⟩), .int .u64 150] 130) → w1 = w.alloc (.cells #[.pointer (some ⟨4, 59, none⟩), .pointer (some ⟨a0, 0, none⟩), .int .u64 150] 130)) := fun _ h => h
  obtain ⟨w1, hw1⟩ : ∃ w1, w1 = w.alloc (.cells #[.pointer (some ⟨4, 59, none⟩), .pointer (some ⟨a0, 0, none⟩), .int .u64 150] 130) := ⟨_, rfl⟩
  rw [← hw1] at hc1 fb ha1 ht1 ⊢
  clear hc ha ht
  have lfb := lt_of_objAt fb
  have hHW : Hid (w1 = w.alloc (.cells #[.pointer (some ⟨4, 59, none⟩), .pointer (some ⟨a0, 0, none⟩), .int .u64 150] 130)) := hw1
  clear hw1 HE
  go_loopw [0, 9, 10, 11, 12, 14, 15] (fun v _ _ _ _ _ _ wr => wr = w1 ∧ ∃ l v0, v0 = v ∧ Chn w1 l (.iface 48 (.int .i64 x)) v0) (fun v _ _ _ _ _ _ _ => deep w1 v)
  case atStart => exact ⟨rfl, l, _, rfl, hc1⟩
  case round =>
    obtain ⟨rfl, l, v0, rfl, hc⟩ := hrel
    cases l with
    | nil =>
      obtain rfl : v0 = _ := hc
      have el := elemV_pe ⟨a0, 0, none⟩ ⟨tb, 0, none⟩ wr (by rw [cell_obj, ha1]; exact cellOf_cells _ _ _ _)
      have st := set_e ⟨tb, 0, none⟩ ⟨wr.heap.size, 0, none⟩ x (.int .i64 n0) (wr.alloc (.cells #[.int .i64 x] 48)) (by rw [cell_obj, objAt_alloc_at _ _ _ rfl]; exact cellOf_cells _ _ _ _) (by rw [cell_obj, keep_alloc _ ht1]; exact cellOf_cells _ _ _ _) (by rw [frozen_obj, keep_alloc _ ht1]; exact frozenOf_cells _ _ _)
      rw [setCell_eq_setRow _ tb 0 _ _ _ _ (keep_alloc _ ht1)] at st
      go_wp2
      go_ret
      exact ⟨rfl, by rw [setRow_alloc_past _ _ _ _ (lt_of_objAt ht1), hHW.out, setRow_alloc_past _ _ _ _ lta]; exact Grew.alloc (Grew.alloc (Grew.refl _) _) _⟩
    | cons s l =>
      obtain ⟨g, u, rfl, hg, hcu⟩ := hc
      have hd : deep wr u < deep wr (.iface 61 (.pointer (some ⟨g, 0, none⟩))) := by
        rw [deep_eq hbr hcu, deep_eq hbr (show Chn wr (s :: l) _ _ from ⟨g, u, rfl, hg, hcu⟩), List.length_cons]
        omega
      obtain ⟨tu, y, rfl⟩ : ∃ tu y, u = .iface tu y := by
        cases l with
        | nil => exact ⟨_, _, hcu⟩
        | cons s' l => obtain ⟨g', u', e, _⟩ := hcu; exact ⟨_, _, e⟩
      go_wp2_with (go_at_call 31; refine (funwrap_any g s _ _ hg).mono ?_; rintro e w' ⟨rfl, rfl⟩)
      go_roundw
      case rel => first | exact ⟨rfl, l, _, rfl, hcu⟩ | exact ⟨trivial, l, _, rfl, hcu⟩ | ((repeat' apply Exists.intro) <;> first | exact ⟨⟨trivial, l, _, rfl, hcu⟩, rfl⟩ | exact ⟨⟨rfl, l, _, rfl, hcu⟩, rfl⟩ | exact undef)
      case measure => exact hd
set_option maxRecDepth 100000 in
set_option maxHeartbeats 4000000 in
theorem as_es (a : Addr) (n0 : Int) (tb a0 : Nat) (l : List ByteArray) (v : Value) (w : World) (hc : Chn w l (.iface 139 (.pointer (some a))) v) (ha : objAt w a0 = some (.cells #[.pointer (some ⟨tb, 0, none⟩)] 59)) (ht : objAt w tb = some (.cells #[.int .i64 n0] 48)) :
    Calls Tryz.prog 78 #[v, .iface 59 (.pointer (some ⟨tb, 0, none⟩)), .agg #[.pointer (some ⟨4, 59, none⟩), .pointer (some ⟨a0, 0, none⟩), .int .u64 150], .iface 174 (.agg #[.pointer (some ⟨4, 48, none⟩)])] w fun e w' => e = .returned (.bool false) ∧ Below w.heap.size w w' := by
  have hbr : Bare (.iface 139 (.pointer (some a))) := bare_text _
  go_enter Tryz.func78, Tryz.ntmps78
  go_wp2_with fail
  have hc1 := hc.later (Grew.alloc (Grew.refl w) (.cells #[.pointer (some ⟨4, 59, none⟩), .pointer (some ⟨a0, 0, none⟩), .int .u64 150] 130))
  have fb : objAt (w.alloc (.cells #[.pointer (some ⟨4, 59, none⟩), .pointer (some ⟨a0, 0, none⟩), .int .u64 150] 130)) w.heap.size = some (.cells #[.pointer (some ⟨4, 59, none⟩), .pointer (some ⟨a0, 0, none⟩), .int .u64 150] 130) := objAt_alloc_at _ _ _ rfl
  have ha1 := keep_alloc (.cells #[.pointer (some ⟨4, 59, none⟩), .pointer (some ⟨a0, 0, none⟩), .int .u64 150] 130) ha
  have ht1 := keep_alloc (.cells #[.pointer (some ⟨4, 59, none⟩), .pointer (some ⟨a0, 0, none⟩), .int .u64 150] 130) ht
  have lta := lt_of_objAt ht
  have HE : Hid (∀ w1, w1 = w.alloc (.cells #[.pointer (some ⟨4, 59, none⟩), .pointer (some ⟨a0, 0, none⟩), .int .u64 150] 130) → w1 = w.alloc (.cells #[.pointer (some ⟨4, 59, none⟩), .pointer (some ⟨a0, 0, none⟩), .int .u64 150] 130)) := fun _ h => h
  obtain ⟨w1, hw1⟩ : ∃ w1, w1 = w.alloc (.cells #[.pointer (some ⟨4, 59, none⟩), .pointer (some ⟨a0, 0, none⟩), .int .u64 150] 130) := ⟨_, rfl⟩
  rw [← hw1] at hc1 fb ha1 ht1 ⊢
  clear hc ha ht
  have lfb := lt_of_objAt fb
  have hHW : Hid (w1 = w.alloc (.cells #[.pointer (some ⟨4, 59, none⟩), .pointer (some ⟨a0, 0, none⟩), .int .u64 150] 130)) := hw1
  clear hw1 HE
  go_loopw [0, 9, 10, 11, 12, 14, 15] (fun v _ _ _ _ _ _ wr => wr = w1 ∧ ∃ l v0, v0 = v ∧ Chn w1 l (.iface 139 (.pointer (some a))) v0) (fun v _ _ _ _ _ _ _ => deep w1 v)
  case atStart => exact ⟨rfl, l, _, rfl, hc1⟩
  case round =>
    obtain ⟨rfl, l, v0, rfl, hc⟩ := hrel
    cases l with
    | nil =>
      obtain rfl : v0 = _ := hc
      go_wp2
      go_ret
      exact ⟨rfl, by rw [hHW.out]; exact Grew.alloc (Grew.refl _) _⟩
    | cons s l =>
      obtain ⟨g, u, rfl, hg, hcu⟩ := hc
      have hd : deep wr u < deep wr (.iface 61 (.pointer (some ⟨g, 0, none⟩))) := by
        rw [deep_eq hbr hcu, deep_eq hbr (show Chn wr (s :: l) _ _ from ⟨g, u, rfl, hg, hcu⟩), List.length_cons]
        omega
      obtain ⟨tu, y, rfl⟩ : ∃ tu y, u = .iface tu y := by
        cases l with
        | nil => exact ⟨_, _, hcu⟩
        | cons s' l => obtain ⟨g', u', e, _⟩ := hcu; exact ⟨_, _, e⟩
      go_wp2_with (go_at_call 31; refine (funwrap_any g s _ _ hg).mono ?_; rintro e w' ⟨rfl, rfl⟩)
      go_roundw
      case rel => first | exact ⟨rfl, l, _, rfl, hcu⟩ | exact ⟨trivial, l, _, rfl, hcu⟩ | ((repeat' apply Exists.intro) <;> first | exact ⟨⟨trivial, l, _, rfl, hcu⟩, rfl⟩ | exact ⟨⟨rfl, l, _, rfl, hcu⟩, rfl⟩ | exact undef)
      case measure => exact hd
end Go.Proofs.YtonmancgalencaaGreatDoor
namespace Go.Proofs.YtonmancgalencaaGreatDoor
open Go.RowKit Go.Extern
set_option linter.unusedVariables false
set_option linter.unusedSimpArgs false

set_option maxRecDepth 100000 in
set_option maxHeartbeats 4000000 in
theorem as_fe (x : Int) (n0 : Option Addr) (tb a0 : Nat) (w : World) (ha : objAt w a0 = some (.cells #[.pointer (some ⟨tb, 0, none⟩)] 126)) (ht : objAt w tb = some (.cells #[.pointer n0] 61)) :
    Calls Tryz.prog 78 #[.iface 48 (.int .i64 x), .iface 126 (.pointer (some ⟨tb, 0, none⟩)), .agg #[.pointer (some ⟨4, 126, none⟩), .pointer (some ⟨a0, 0, none⟩), .int .u64 150], .iface 174 (.agg #[.pointer (some ⟨4, 61, none⟩)])] w fun e w' => e = .returned (.bool false) ∧ Below w.heap.size w w' := by
  go_enter Tryz.func78, Tryz.ntmps78
  go_wp2_with fail
  refine wp_loop_rounds 1 ?_
  rw [rounds_succ]
  go_wp2
  go_ret
  exact ⟨rfl, Grew.alloc (Grew.refl _) _⟩
set_option maxRecDepth 100000 in
set_option maxHeartbeats 4000000 in
theorem as_fs (a : Addr) (n0 : Option Addr) (tb a0 : Nat) (w : World) (ha : objAt w a0 = some (.cells #[.pointer (some ⟨tb, 0, none⟩)] 126)) (ht : objAt w tb = some (.cells #[.pointer n0] 61)) :
    Calls Tryz.prog 78 #[.iface 139 (.pointer (some a)), .iface 126 (.pointer (some ⟨tb, 0, none⟩)), .agg #[.pointer (some ⟨4, 126, none⟩), .pointer (some ⟨a0, 0, none⟩), .int .u64 150], .iface 174 (.agg #[.pointer (some ⟨4, 61, none⟩)])] w fun e w' => e = .returned (.bool false) ∧ Below w.heap.size w w' := by
  go_enter Tryz.func78, Tryz.ntmps78
  go_wp2_with fail
  refine wp_loop_rounds 1 ?_
  rw [rounds_succ]
  go_wp2
  go_ret
  exact ⟨rfl, Grew.alloc (Grew.refl _) _⟩
set_option maxRecDepth 100000 in
set_option maxHeartbeats 4000000 in
theorem as_fhit (g : Nat) (n0 : Option Addr) (tb a0 : Nat) (w : World) (ha : objAt w a0 = some (.cells #[.pointer (some ⟨tb, 0, none⟩)] 126)) (ht : objAt w tb = some (.cells #[.pointer n0] 61)) :
    Calls Tryz.prog 78 #[.iface 61 (.pointer (some ⟨g, 0, none⟩)), .iface 126 (.pointer (some ⟨tb, 0, none⟩)), .agg #[.pointer (some ⟨4, 126, none⟩), .pointer (some ⟨a0, 0, none⟩), .int .u64 150], .iface 174 (.agg #[.pointer (some ⟨4, 61, none⟩)])] w fun e w' => e = .returned (.bool true) ∧ Below (w.setRow tb #[.pointer (some ⟨g, 0, none⟩)]).heap.size (w.setRow tb #[.pointer (some ⟨g, 0, none⟩)]) w' := by
  have ha1 := keep_alloc (.cells #[.pointer (some ⟨4, 126, none⟩), .pointer (some ⟨a0, 0, none⟩), .int .u64 150] 130) ha
  have ht1 := keep_alloc (.cells #[.pointer (some ⟨4, 126, none⟩), .pointer (some ⟨a0, 0, none⟩), .int .u64 150] 130) ht
  have lta := lt_of_objAt ht
  have el := elemV_ppf ⟨a0, 0, none⟩ ⟨tb, 0, none⟩ (w.alloc (.cells #[.pointer (some ⟨4, 126, none⟩), .pointer (some ⟨a0, 0, none⟩), .int .u64 150] 130)) (by rw [cell_obj, ha1]; exact cellOf_cells _ _ _ _)
  have st := set_f ⟨tb, 0, none⟩ ⟨w.heap.size + 1, 0, none⟩ (some ⟨g, 0, none⟩) (.pointer n0) ((w.alloc (.cells #[.pointer (some ⟨4, 126, none⟩), .pointer (some ⟨a0, 0, none⟩), .int .u64 150] 130)).alloc (.cells #[.pointer (some ⟨g, 0, none⟩)] 61)) (by rw [cell_obj, objAt_alloc_at _ _ _ (by simp)]; exact cellOf_cells _ _ _ _) (by rw [cell_obj, keep_alloc _ ht1]; exact cellOf_cells _ _ _ _) (by rw [frozen_obj, keep_alloc _ ht1]; exact frozenOf_cells _ _ _)
  rw [setCell_eq_setRow _ tb 0 _ _ _ _ (keep_alloc _ ht1)] at st
  go_enter Tryz.func78, Tryz.ntmps78
  go_wp2_with fail
  refine wp_loop_rounds 1 ?_
  rw [rounds_succ]
  go_wp2
  go_ret
  exact ⟨rfl, Grew.alloc (Grew.alloc (Grew.refl _) _) _⟩
set_option maxRecDepth 100000 in
set_option maxHeartbeats 4000000 in
theorem As_ee (x n0 : Int) (l : List ByteArray) (v : Value) (tb : Nat) (w : World) (hE : EtAt w) (hc : Chn w l (.iface 48 (.int .i64 x)) v) (ht : objAt w tb = some (.cells #[.int .i64 n0] 48)) :
    Calls Tryz.prog 28 #[v, .iface 59 (.pointer (some ⟨tb, 0, none⟩))] w fun e w' => e = .returned (.bool true) ∧ Below (w.setRow tb #[.int .i64 x]).heap.size (w.setRow tb #[.int .i64 x]) w' := by
  have HC : Hid (∀ (a0 : Nat) (w1 : World), Below w.heap.size w w1 → objAt w1 a0 = some (.cells #[.pointer (some ⟨tb, 0, none⟩)] 59) → objAt w1 tb = some (.cells #[.int .i64 n0] 48) → Calls Tryz.prog 78 #[v, .iface 59 (.pointer (some ⟨tb, 0, none⟩)), .agg #[.pointer (some ⟨4, 59, none⟩), .pointer (some ⟨a0, 0, none⟩), .int .u64 150], .iface 174 (.agg #[.pointer (some ⟨4, 48, none⟩)])] w1 fun e w' => e = .returned (.bool true) ∧ Below (w1.setRow tb #[.int .i64 x]).heap.size (w1.setRow tb #[.int .i64 x]) w') := fun a0 w1 hb ha ht => as_ee x n0 tb a0 l v w1 (hc.later hb) ha ht
  obtain ⟨tE, fE, hE1⟩ := hE
  have hE2 := keep_alloc (.cells #[.pointer (some ⟨4, 59, none⟩), .pointer (some ⟨w.heap.size, 0, none⟩), .int .u64 150] 130) (keep_alloc (.cells #[.pointer (some ⟨tb, 0, none⟩)] 59) hE1)
  have ht2 := keep_alloc (.cells #[.pointer (some ⟨4, 59, none⟩), .pointer (some ⟨w.heap.size, 0, none⟩), .int .u64 150] 130) (keep_alloc (.cells #[.pointer (some ⟨tb, 0, none⟩)] 59) ht)
  have ha2 : objAt ((w.alloc (.cells #[.pointer (some ⟨tb, 0, none⟩)] 59)).alloc (.cells #[.pointer (some ⟨4, 59, none⟩), .pointer (some ⟨w.heap.size, 0, none⟩), .int .u64 150] 130)) w.heap.size = some (.cells #[.pointer (some ⟨tb, 0, none⟩)] 59) := keep_alloc _ (objAt_alloc_at _ _ _ rfl)
  have fb2 : objAt ((w.alloc (.cells #[.pointer (some ⟨tb, 0, none⟩)] 59)).alloc (.cells #[.pointer (some ⟨4, 59, none⟩), .pointer (some ⟨w.heap.size, 0, none⟩), .int .u64 150] 130)) (w.heap.size + 1) = some (.cells #[.pointer (some ⟨4, 59, none⟩), .pointer (some ⟨w.heap.size, 0, none⟩), .int .u64 150] 130) := objAt_alloc_at _ _ _ (by simp)
  have lta := lt_of_objAt ht
  have lE := lt_of_objAt hE1
  have hb2 : Below w.heap.size w ((w.alloc (.cells #[.pointer (some ⟨tb, 0, none⟩)] 59)).alloc (.cells #[.pointer (some ⟨4, 59, none⟩), .pointer (some ⟨w.heap.size, 0, none⟩), .int .u64 150] 130)) := Grew.alloc (Grew.alloc (Grew.refl w) _) _
  have n8 := isNil_pe ⟨w.heap.size, 0, none⟩ ⟨tb, 0, none⟩ ((w.alloc (.cells #[.pointer (some ⟨tb, 0, none⟩)] 59)).alloc (.cells #[.pointer (some ⟨4, 59, none⟩), .pointer (some ⟨w.heap.size, 0, none⟩), .int .u64 150] 130)) (by rw [cell_obj, ha2]; exact cellOf_cells _ _ _ _)
  clear hE1
  obtain ⟨tv, yv, rfl⟩ : ∃ t y, v = .iface t y := by
    cases l with
    | nil => exact ⟨_, _, hc⟩
    | cons s' l => obtain ⟨g', u', e, _⟩ := hc; exact ⟨_, _, e⟩
  clear hc
  go_enter Tryz.func28, Tryz.ntmps28
  go_wp2_with fail
  refine (HC.out _ _ hb2 ha2 ht2).mono ?_
  rintro e w' ⟨rfl, hb⟩
  go_wp2
  go_ret
  exact ⟨rfl, by rw [setRow_alloc_past _ _ _ _ (by simp; omega), setRow_alloc_past _ _ _ _ lta] at hb; exact Grew.trans (Grew.alloc (Grew.alloc (Grew.refl _) _) _) hb⟩
set_option maxRecDepth 100000 in
set_option maxHeartbeats 4000000 in
theorem As_es (a : Addr) (n0 : Int) (l : List ByteArray) (v : Value) (tb : Nat) (w : World) (hE : EtAt w) (hc : Chn w l (.iface 139 (.pointer (some a))) v) (ht : objAt w tb = some (.cells #[.int .i64 n0] 48)) :
    Calls Tryz.prog 28 #[v, .iface 59 (.pointer (some ⟨tb, 0, none⟩))] w fun e w' => e = .returned (.bool false) ∧ Below w.heap.size w w' := by
  have HC : Hid (∀ (a0 : Nat) (w1 : World), Below w.heap.size w w1 → objAt w1 a0 = some (.cells #[.pointer (some ⟨tb, 0, none⟩)] 59) → objAt w1 tb = some (.cells #[.int .i64 n0] 48) → Calls Tryz.prog 78 #[v, .iface 59 (.pointer (some ⟨tb, 0, none⟩)), .agg #[.pointer (some ⟨4, 59, none⟩), .pointer (some ⟨a0, 0, none⟩), .int .u64 150], .iface 174 (.agg #[.pointer (some ⟨4, 48, none⟩)])] w1 fun e w' => e = .returned (.bool false) ∧ Below w1.heap.size w1 w') := fun a0 w1 hb ha ht => as_es a n0 tb a0 l v w1 (hc.later hb) ha ht
  obtain ⟨tE, fE, hE1⟩ := hE
  have hE2 := keep_alloc (.cells #[.pointer (some ⟨4, 59, none⟩), .pointer (some ⟨w.heap.size, 0, none⟩), .int .u64 150] 130) (keep_alloc (.cells #[.pointer (some ⟨tb, 0, none⟩)] 59) hE1)
  have ht2 := keep_alloc (.cells #[.pointer (some ⟨4, 59, none⟩), .pointer (some ⟨w.heap.size, 0, none⟩), .int .u64 150] 130) (keep_alloc (.cells #[.pointer (some ⟨tb, 0, none⟩)] 59) ht)
  have ha2 : objAt ((w.alloc (.cells #[.pointer (some ⟨tb, 0, none⟩)] 59)).alloc (.cells #[.pointer (some ⟨4, 59, none⟩), .pointer (some ⟨w.heap.size, 0, none⟩), .int .u64 150] 130)) w.heap.size = some (.cells #[.pointer (some ⟨tb, 0, none⟩)] 59) := keep_alloc _ (objAt_alloc_at _ _ _ rfl)
  have fb2 : objAt ((w.alloc (.cells #[.pointer (some ⟨tb, 0, none⟩)] 59)).alloc (.cells #[.pointer (some ⟨4, 59, none⟩), .pointer (some ⟨w.heap.size, 0, none⟩), .int .u64 150] 130)) (w.heap.size + 1) = some (.cells #[.pointer (some ⟨4, 59, none⟩), .pointer (some ⟨w.heap.size, 0, none⟩), .int .u64 150] 130) := objAt_alloc_at _ _ _ (by simp)
  have lta := lt_of_objAt ht
  have lE := lt_of_objAt hE1
  have hb2 : Below w.heap.size w ((w.alloc (.cells #[.pointer (some ⟨tb, 0, none⟩)] 59)).alloc (.cells #[.pointer (some ⟨4, 59, none⟩), .pointer (some ⟨w.heap.size, 0, none⟩), .int .u64 150] 130)) := Grew.alloc (Grew.alloc (Grew.refl w) _) _
  have n8 := isNil_pe ⟨w.heap.size, 0, none⟩ ⟨tb, 0, none⟩ ((w.alloc (.cells #[.pointer (some ⟨tb, 0, none⟩)] 59)).alloc (.cells #[.pointer (some ⟨4, 59, none⟩), .pointer (some ⟨w.heap.size, 0, none⟩), .int .u64 150] 130)) (by rw [cell_obj, ha2]; exact cellOf_cells _ _ _ _)
  clear hE1
  obtain ⟨tv, yv, rfl⟩ : ∃ t y, v = .iface t y := by
    cases l with
    | nil => exact ⟨_, _, hc⟩
    | cons s' l => obtain ⟨g', u', e, _⟩ := hc; exact ⟨_, _, e⟩
  clear hc
  go_enter Tryz.func28, Tryz.ntmps28
  go_wp2_with fail
  refine (HC.out _ _ hb2 ha2 ht2).mono ?_
  rintro e w' ⟨rfl, hb⟩
  go_wp2
  go_ret
  exact ⟨rfl, Grew.trans hb2 hb⟩
set_option maxRecDepth 100000 in
set_option maxHeartbeats 4000000 in
theorem As_fhit (g : Nat) (n0 : Option Addr) (tb : Nat) (w : World) (hE : EtAt w) (ht : objAt w tb = some (.cells #[.pointer n0] 61)) :
    Calls Tryz.prog 28 #[.iface 61 (.pointer (some ⟨g, 0, none⟩)), .iface 126 (.pointer (some ⟨tb, 0, none⟩))] w fun e w' => e = .returned (.bool true) ∧ Below (w.setRow tb #[.pointer (some ⟨g, 0, none⟩)]).heap.size (w.setRow tb #[.pointer (some ⟨g, 0, none⟩)]) w' := by
  have HC : Hid (∀ (a0 : Nat) (w1 : World), Below w.heap.size w w1 → objAt w1 a0 = some (.cells #[.pointer (some ⟨tb, 0, none⟩)] 126) → objAt w1 tb = some (.cells #[.pointer n0] 61) → Calls Tryz.prog 78 #[.iface 61 (.pointer (some ⟨g, 0, none⟩)), .iface 126 (.pointer (some ⟨tb, 0, none⟩)), .agg #[.pointer (some ⟨4, 126, none⟩), .pointer (some ⟨a0, 0, none⟩), .int .u64 150], .iface 174 (.agg #[.pointer (some ⟨4, 61, none⟩)])] w1 fun e w' => e = .returned (.bool true) ∧ Below (w1.setRow tb #[.pointer (some ⟨g, 0, none⟩)]).heap.size (w1.setRow tb #[.pointer (some ⟨g, 0, none⟩)]) w') := fun a0 w1 hb ha ht => as_fhit g n0 tb a0 w1 ha ht
  obtain ⟨tE, fE, hE1⟩ := hE
  have hE2 := keep_alloc (.cells #[.pointer (some ⟨4, 126, none⟩), .pointer (some ⟨w.heap.size, 0, none⟩), .int .u64 150] 130) (keep_alloc (.cells #[.pointer (some ⟨tb, 0, none⟩)] 126) hE1)
  have ht2 := keep_alloc (.cells #[.pointer (some ⟨4, 126, none⟩), .pointer (some ⟨w.heap.size, 0, none⟩), .int .u64 150] 130) (keep_alloc (.cells #[.pointer (some ⟨tb, 0, none⟩)] 126) ht)
  have ha2 : objAt ((w.alloc (.cells #[.pointer (some ⟨tb, 0, none⟩)] 126)).alloc (.cells #[.pointer (some ⟨4, 126, none⟩), .pointer (some ⟨w.heap.size, 0, none⟩), .int .u64 150] 130)) w.heap.size = some (.cells #[.pointer (some ⟨tb, 0, none⟩)] 126) := keep_alloc _ (objAt_alloc_at _ _ _ rfl)
  have fb2 : objAt ((w.alloc (.cells #[.pointer (some ⟨tb, 0, none⟩)] 126)).alloc (.cells #[.pointer (some ⟨4, 126, none⟩), .pointer (some ⟨w.heap.size, 0, none⟩), .int .u64 150] 130)) (w.heap.size + 1) = some (.cells #[.pointer (some ⟨4, 126, none⟩), .pointer (some ⟨w.heap.size, 0, none⟩), .int .u64 150] 130) := objAt_alloc_at _ _ _ (by simp)
  have lta := lt_of_objAt ht
  have lE := lt_of_objAt hE1
  have hb2 : Below w.heap.size w ((w.alloc (.cells #[.pointer (some ⟨tb, 0, none⟩)] 126)).alloc (.cells #[.pointer (some ⟨4, 126, none⟩), .pointer (some ⟨w.heap.size, 0, none⟩), .int .u64 150] 130)) := Grew.alloc (Grew.alloc (Grew.refl w) _) _
  have n8 := isNil_ppf ⟨w.heap.size, 0, none⟩ ⟨tb, 0, none⟩ ((w.alloc (.cells #[.pointer (some ⟨tb, 0, none⟩)] 126)).alloc (.cells #[.pointer (some ⟨4, 126, none⟩), .pointer (some ⟨w.heap.size, 0, none⟩), .int .u64 150] 130)) (by rw [cell_obj, ha2]; exact cellOf_cells _ _ _ _)
  clear hE1
  go_enter Tryz.func28, Tryz.ntmps28
  go_wp2_with fail
  refine (HC.out _ _ hb2 ha2 ht2).mono ?_
  rintro e w' ⟨rfl, hb⟩
  go_wp2
  go_ret
  exact ⟨rfl, by rw [setRow_alloc_past _ _ _ _ (by simp; omega), setRow_alloc_past _ _ _ _ lta] at hb; exact Grew.trans (Grew.alloc (Grew.alloc (Grew.refl _) _) _) hb⟩
set_option maxRecDepth 100000 in
set_option maxHeartbeats 4000000 in
theorem As_fe (x : Int) (n0 : Option Addr) (tb : Nat) (w : World) (hE : EtAt w) (ht : objAt w tb = some (.cells #[.pointer n0] 61)) :
    Calls Tryz.prog 28 #[.iface 48 (.int .i64 x), .iface 126 (.pointer (some ⟨tb, 0, none⟩))] w fun e w' => e = .returned (.bool false) ∧ Below w.heap.size w w' := by
  have HC : Hid (∀ (a0 : Nat) (w1 : World), Below w.heap.size w w1 → objAt w1 a0 = some (.cells #[.pointer (some ⟨tb, 0, none⟩)] 126) → objAt w1 tb = some (.cells #[.pointer n0] 61) → Calls Tryz.prog 78 #[.iface 48 (.int .i64 x), .iface 126 (.pointer (some ⟨tb, 0, none⟩)), .agg #[.pointer (some ⟨4, 126, none⟩), .pointer (some ⟨a0, 0, none⟩), .int .u64 150], .iface 174 (.agg #[.pointer (some ⟨4, 61, none⟩)])] w1 fun e w' => e = .returned (.bool false) ∧ Below w1.heap.size w1 w') := fun a0 w1 hb ha ht => as_fe x n0 tb a0 w1 ha ht
  obtain ⟨tE, fE, hE1⟩ := hE
  have hE2 := keep_alloc (.cells #[.pointer (some ⟨4, 126, none⟩), .pointer (some ⟨w.heap.size, 0, none⟩), .int .u64 150] 130) (keep_alloc (.cells #[.pointer (some ⟨tb, 0, none⟩)] 126) hE1)
  have ht2 := keep_alloc (.cells #[.pointer (some ⟨4, 126, none⟩), .pointer (some ⟨w.heap.size, 0, none⟩), .int .u64 150] 130) (keep_alloc (.cells #[.pointer (some ⟨tb, 0, none⟩)] 126) ht)
  have ha2 : objAt ((w.alloc (.cells #[.pointer (some ⟨tb, 0, none⟩)] 126)).alloc (.cells #[.pointer (some ⟨4, 126, none⟩), .pointer (some ⟨w.heap.size, 0, none⟩), .int .u64 150] 130)) w.heap.size = some (.cells #[.pointer (some ⟨tb, 0, none⟩)] 126) := keep_alloc _ (objAt_alloc_at _ _ _ rfl)
  have fb2 : objAt ((w.alloc (.cells #[.pointer (some ⟨tb, 0, none⟩)] 126)).alloc (.cells #[.pointer (some ⟨4, 126, none⟩), .pointer (some ⟨w.heap.size, 0, none⟩), .int .u64 150] 130)) (w.heap.size + 1) = some (.cells #[.pointer (some ⟨4, 126, none⟩), .pointer (some ⟨w.heap.size, 0, none⟩), .int .u64 150] 130) := objAt_alloc_at _ _ _ (by simp)
  have lta := lt_of_objAt ht
  have lE := lt_of_objAt hE1
  have hb2 : Below w.heap.size w ((w.alloc (.cells #[.pointer (some ⟨tb, 0, none⟩)] 126)).alloc (.cells #[.pointer (some ⟨4, 126, none⟩), .pointer (some ⟨w.heap.size, 0, none⟩), .int .u64 150] 130)) := Grew.alloc (Grew.alloc (Grew.refl w) _) _
  have n8 := isNil_ppf ⟨w.heap.size, 0, none⟩ ⟨tb, 0, none⟩ ((w.alloc (.cells #[.pointer (some ⟨tb, 0, none⟩)] 126)).alloc (.cells #[.pointer (some ⟨4, 126, none⟩), .pointer (some ⟨w.heap.size, 0, none⟩), .int .u64 150] 130)) (by rw [cell_obj, ha2]; exact cellOf_cells _ _ _ _)
  clear hE1
  go_enter Tryz.func28, Tryz.ntmps28
  go_wp2_with fail
  refine (HC.out _ _ hb2 ha2 ht2).mono ?_
  rintro e w' ⟨rfl, hb⟩
  go_wp2
  go_ret
  exact ⟨rfl, Grew.trans hb2 hb⟩
set_option maxRecDepth 100000 in
set_option maxHeartbeats 4000000 in
theorem As_fs (a : Addr) (n0 : Option Addr) (tb : Nat) (w : World) (hE : EtAt w) (ht : objAt w tb = some (.cells #[.pointer n0] 61)) :
    Calls Tryz.prog 28 #[.iface 139 (.pointer (some a)), .iface 126 (.pointer (some ⟨tb, 0, none⟩))] w fun e w' => e = .returned (.bool false) ∧ Below w.heap.size w w' := by
  have HC : Hid (∀ (a0 : Nat) (w1 : World), Below w.heap.size w w1 → objAt w1 a0 = some (.cells #[.pointer (some ⟨tb, 0, none⟩)] 126) → objAt w1 tb = some (.cells #[.pointer n0] 61) → Calls Tryz.prog 78 #[.iface 139 (.pointer (some a)), .iface 126 (.pointer (some ⟨tb, 0, none⟩)), .agg #[.pointer (some ⟨4, 126, none⟩), .pointer (some ⟨a0, 0, none⟩), .int .u64 150], .iface 174 (.agg #[.pointer (some ⟨4, 61, none⟩)])] w1 fun e w' => e = .returned (.bool false) ∧ Below w1.heap.size w1 w') := fun a0 w1 hb ha ht => as_fs a n0 tb a0 w1 ha ht
  obtain ⟨tE, fE, hE1⟩ := hE
  have hE2 := keep_alloc (.cells #[.pointer (some ⟨4, 126, none⟩), .pointer (some ⟨w.heap.size, 0, none⟩), .int .u64 150] 130) (keep_alloc (.cells #[.pointer (some ⟨tb, 0, none⟩)] 126) hE1)
  have ht2 := keep_alloc (.cells #[.pointer (some ⟨4, 126, none⟩), .pointer (some ⟨w.heap.size, 0, none⟩), .int .u64 150] 130) (keep_alloc (.cells #[.pointer (some ⟨tb, 0, none⟩)] 126) ht)
  have ha2 : objAt ((w.alloc (.cells #[.pointer (some ⟨tb, 0, none⟩)] 126)).alloc (.cells #[.pointer (some ⟨4, 126, none⟩), .pointer (some ⟨w.heap.size, 0, none⟩), .int .u64 150] 130)) w.heap.size = some (.cells #[.pointer (some ⟨tb, 0, none⟩)] 126) := keep_alloc _ (objAt_alloc_at _ _ _ rfl)
  have fb2 : objAt ((w.alloc (.cells #[.pointer (some ⟨tb, 0, none⟩)] 126)).alloc (.cells #[.pointer (some ⟨4, 126, none⟩), .pointer (some ⟨w.heap.size, 0, none⟩), .int .u64 150] 130)) (w.heap.size + 1) = some (.cells #[.pointer (some ⟨4, 126, none⟩), .pointer (some ⟨w.heap.size, 0, none⟩), .int .u64 150] 130) := objAt_alloc_at _ _ _ (by simp)
  have lta := lt_of_objAt ht
  have lE := lt_of_objAt hE1
  have hb2 : Below w.heap.size w ((w.alloc (.cells #[.pointer (some ⟨tb, 0, none⟩)] 126)).alloc (.cells #[.pointer (some ⟨4, 126, none⟩), .pointer (some ⟨w.heap.size, 0, none⟩), .int .u64 150] 130)) := Grew.alloc (Grew.alloc (Grew.refl w) _) _
  have n8 := isNil_ppf ⟨w.heap.size, 0, none⟩ ⟨tb, 0, none⟩ ((w.alloc (.cells #[.pointer (some ⟨tb, 0, none⟩)] 126)).alloc (.cells #[.pointer (some ⟨4, 126, none⟩), .pointer (some ⟨w.heap.size, 0, none⟩), .int .u64 150] 130)) (by rw [cell_obj, ha2]; exact cellOf_cells _ _ _ _)
  clear hE1
  go_enter Tryz.func28, Tryz.ntmps28
  go_wp2_with fail
  refine (HC.out _ _ hb2 ha2 ht2).mono ?_
  rintro e w' ⟨rfl, hb⟩
  go_wp2
  go_ret
  exact ⟨rfl, Grew.trans hb2 hb⟩
set_option maxRecDepth 100000 in
set_option maxHeartbeats 4000000 in
theorem As_nil (t : Value) (w : World) : Calls Tryz.prog 28 #[.nilIface, t] w fun e w' => e = .returned (.bool false) ∧ w' = w := by
  go_enter Tryz.func28, Tryz.ntmps28
  go_wp2
  go_ret
  exact ⟨rfl, rfl⟩
end Go.Proofs.YtonmancgalencaaGreatDoor
namespace Go.Proofs.YtonmancgalencaaGreatDoor
open Go.RowKit Go.Extern
set_option linter.unusedVariables false
set_option linter.unusedSimpArgs false

@[go_sem] theorem comparable_e2 (w : World) : ((ReflectliteType.method fun t => do Rtype.noPackHeld "Comparable" t; (fun a => Value.bool a.comparable) <$> typeInfo t) #[.agg #[.pointer (some ⟨4, 48, none⟩)]]).run Tryz.prog w = .ok (.bool true) w := by kernel_rfl
@[go_sem] theorem eql_pe (a b : Value) (w : World) : (binOp .eql 50 (.iface 61 a) (.iface 48 b)).run Tryz.prog w = .ok (.bool false) w := run_eql_iface_types _ _ _ _ Tryz.underlying50 (by decide) w
@[go_sem] theorem eql_se (a b : Value) (w : World) : (binOp .eql 50 (.iface 139 a) (.iface 48 b)).run Tryz.prog w = .ok (.bool false) w := run_eql_iface_types _ _ _ _ Tryz.underlying50 (by decide) w
@[go_sem] theorem eql_ee (a b : Int) (w : World) : (binOp .eql 50 (.iface 48 (.int .i64 a)) (.iface 48 (.int .i64 b))).run Tryz.prog w = .ok (.bool (decide (a = b))) w := by
  have e1 : Tryz.prog.underlying 48 = _ := Tryz.underlying48
  have e2 : Tryz.prog.underlying 50 = _ := Tryz.underlying50
  obtain ⟨i, hi, hc⟩ : ∃ i, Tryz.prog.info? 48 = some i ∧ i.comparable = true := ⟨(Tryz.prog.info? 48).get (by kernel_rfl), by kernel_rfl, by kernel_rfl⟩
  have h : ∀ d : Nat, (Op.equalIn (d + 2) 50 (.iface 48 (.int .i64 a)) (.iface 48 (.int .i64 b))).run Tryz.prog w = .ok (decide (a = b)) w := fun d => by
    simp [Op.equalIn, run_underlying e1, run_underlying e2, typeInfo, hi, hc]
    by_cases hab : a = b <;> simp [hab]
  simp only [binOp]
  simp [Op.equal, Op.maxDepth, h 9998]
set_option maxRecDepth 100000 in
set_option maxHeartbeats 4000000 in
theorem is_e (x : Int) (e0 : Int) (l : List ByteArray) (v : Value) (w : World) (hc1 : Chn w l (.iface 48 (.int .i64 x)) v) :
    Calls Tryz.prog 99 #[v, .iface 48 (.int .i64 e0), .bool true] w fun e w' => e = .returned (.bool (decide (x = e0))) ∧ w' = w := by
  have hbr : Bare (.iface 48 (.int .i64 x)) := bare_errno _
  go_enter Tryz.func99, Tryz.ntmps99
  go_wp2_with fail
  go_loopw [0, 7, 8, 9, 10, 12, 13] (fun v _ _ _ _ _ _ wr => wr = w ∧ ∃ l v0, v0 = v ∧ Chn w l (.iface 48 (.int .i64 x)) v0) (fun v _ _ _ _ _ _ _ => deep w v)
  case atStart => exact ⟨rfl, l, _, rfl, hc1⟩
  case round =>
    obtain ⟨rfl, l, v0, rfl, hc⟩ := hrel
    cases l with
    | nil =>
      obtain rfl : v0 = _ := hc
      by_cases hx : x = e0
      · subst hx
        go_wp2
        go_ret
        exact ⟨by simp, rfl⟩
      · go_wp2
        go_ret
        exact ⟨by simp [hx], rfl⟩
    | cons s l =>
      obtain ⟨g, u, rfl, hg, hcu⟩ := hc
      have hd : deep wr u < deep wr (.iface 61 (.pointer (some ⟨g, 0, none⟩))) := by
        rw [deep_eq hbr hcu, deep_eq hbr (show Chn wr (s :: l) _ _ from ⟨g, u, rfl, hg, hcu⟩), List.length_cons]
        omega
      obtain ⟨tu, y, rfl⟩ : ∃ tu y, u = .iface tu y := by
        cases l with
        | nil => exact ⟨_, _, hcu⟩
        | cons s' l => obtain ⟨g', u', e, _⟩ := hcu; exact ⟨_, _, e⟩
      go_wp2_with (go_at_call 31; refine (funwrap_any g s _ _ hg).mono ?_; rintro e w' ⟨rfl, rfl⟩)
      go_roundw
      case rel => first | exact ⟨rfl, l, _, rfl, hcu⟩ | exact ⟨trivial, l, _, rfl, hcu⟩ | ((repeat' apply Exists.intro) <;> first | exact ⟨⟨trivial, l, _, rfl, hcu⟩, rfl⟩ | exact ⟨⟨rfl, l, _, rfl, hcu⟩, rfl⟩ | exact undef)
      case measure => exact hd
set_option maxRecDepth 100000 in
set_option maxHeartbeats 4000000 in
theorem Is_e (x : Int) (e0 : Int) (l : List ByteArray) (v : Value) (w : World) (hc : Chn w l (.iface 48 (.int .i64 x)) v) :
    Calls Tryz.prog 25 #[v, .int .i64 e0] w fun e w' => e = .returned (.bool (decide (x = e0))) ∧ w' = w := by
  have H := is_e x e0 l v w hc
  obtain ⟨tv, yv, rfl⟩ : ∃ t y, v = .iface t y := by
    cases l with
    | nil => exact ⟨_, _, hc⟩
    | cons s' l => obtain ⟨g', u', e, _⟩ := hc; exact ⟨_, _, e⟩
  clear hc
  have H2 : Calls Tryz.prog 74 #[.iface tv yv, .iface 48 (.int .i64 e0)] w fun e w' => e = .returned (.bool (decide (x = e0))) ∧ w' = w := by
    go_enter Tryz.func74, Tryz.ntmps74
    go_wp2_with (go_at_call 99; refine H.mono ?_; rintro e w' ⟨rfl, rfl⟩)
    go_ret
    exact ⟨rfl, rfl⟩
  clear H
  go_enter Tryz.func25, Tryz.ntmps25
  go_wp2_with (go_at_call 74; refine H2.mono ?_; rintro e w' ⟨rfl, rfl⟩)
  go_ret
  exact ⟨rfl, rfl⟩
set_option maxRecDepth 100000 in
set_option maxHeartbeats 4000000 in
theorem is_s (a : Addr) (e0 : Int) (l : List ByteArray) (v : Value) (w : World) (hc1 : Chn w l (.iface 139 (.pointer (some a))) v) :
    Calls Tryz.prog 99 #[v, .iface 48 (.int .i64 e0), .bool true] w fun e w' => e = .returned (.bool (false)) ∧ w' = w := by
  have hbr : Bare (.iface 139 (.pointer (some a))) := bare_text _
  go_enter Tryz.func99, Tryz.ntmps99
  go_wp2_with fail
  go_loopw [0, 7, 8, 9, 10, 12, 13] (fun v _ _ _ _ _ _ wr => wr = w ∧ ∃ l v0, v0 = v ∧ Chn w l (.iface 139 (.pointer (some a))) v0) (fun v _ _ _ _ _ _ _ => deep w v)
  case atStart => exact ⟨rfl, l, _, rfl, hc1⟩
  case round =>
    obtain ⟨rfl, l, v0, rfl, hc⟩ := hrel
    cases l with
    | nil =>
      obtain rfl : v0 = _ := hc
      go_wp2
      go_ret
      exact ⟨rfl, rfl⟩
    | cons s l =>
      obtain ⟨g, u, rfl, hg, hcu⟩ := hc
      have hd : deep wr u < deep wr (.iface 61 (.pointer (some ⟨g, 0, none⟩))) := by
        rw [deep_eq hbr hcu, deep_eq hbr (show Chn wr (s :: l) _ _ from ⟨g, u, rfl, hg, hcu⟩), List.length_cons]
        omega
      obtain ⟨tu, y, rfl⟩ : ∃ tu y, u = .iface tu y := by
        cases l with
        | nil => exact ⟨_, _, hcu⟩
        | cons s' l => obtain ⟨g', u', e, _⟩ := hcu; exact ⟨_, _, e⟩
      go_wp2_with (go_at_call 31; refine (funwrap_any g s _ _ hg).mono ?_; rintro e w' ⟨rfl, rfl⟩)
      go_roundw
      case rel => first | exact ⟨rfl, l, _, rfl, hcu⟩ | exact ⟨trivial, l, _, rfl, hcu⟩ | ((repeat' apply Exists.intro) <;> first | exact ⟨⟨trivial, l, _, rfl, hcu⟩, rfl⟩ | exact ⟨⟨rfl, l, _, rfl, hcu⟩, rfl⟩ | exact undef)
      case measure => exact hd
set_option maxRecDepth 100000 in
set_option maxHeartbeats 4000000 in
theorem Is_s (a : Addr) (e0 : Int) (l : List ByteArray) (v : Value) (w : World) (hc : Chn w l (.iface 139 (.pointer (some a))) v) :
    Calls Tryz.prog 25 #[v, .int .i64 e0] w fun e w' => e = .returned (.bool (false)) ∧ w' = w := by
  have H := is_s a e0 l v w hc
  obtain ⟨tv, yv, rfl⟩ : ∃ t y, v = .iface t y := by
    cases l with
    | nil => exact ⟨_, _, hc⟩
    | cons s' l => obtain ⟨g', u', e, _⟩ := hc; exact ⟨_, _, e⟩
  clear hc
  have H2 : Calls Tryz.prog 74 #[.iface tv yv, .iface 48 (.int .i64 e0)] w fun e w' => e = .returned (.bool (false)) ∧ w' = w := by
    go_enter Tryz.func74, Tryz.ntmps74
    go_wp2_with (go_at_call 99; refine H.mono ?_; rintro e w' ⟨rfl, rfl⟩)
    go_ret
    exact ⟨rfl, rfl⟩
  clear H
  go_enter Tryz.func25, Tryz.ntmps25
  go_wp2_with (go_at_call 74; refine H2.mono ?_; rintro e w' ⟨rfl, rfl⟩)
  go_ret
  exact ⟨rfl, rfl⟩
set_option maxRecDepth 100000 in
set_option maxHeartbeats 4000000 in
theorem Is_nil (e0 : Int) (w : World) : Calls Tryz.prog 25 #[.nilIface, .int .i64 e0] w fun e w' => e = .returned (.bool false) ∧ w' = w := by
  have H2 : Calls Tryz.prog 74 #[.nilIface, .iface 48 (.int .i64 e0)] w fun e w' => e = .returned (.bool false) ∧ w' = w := by
    have q := run_eql_iface_nil_left (P := Tryz.prog) (w := w) 48 (.int .i64 e0) Tryz.underlying50
    go_enter Tryz.func74, Tryz.ntmps74
    go_wp2
    go_ret
    exact ⟨rfl, rfl⟩
  go_enter Tryz.func25, Tryz.ntmps25
  go_wp2_with (go_at_call 74; refine H2.mono ?_; rintro e w' ⟨rfl, rfl⟩)
  go_ret
  exact ⟨rfl, rfl⟩
theorem wrap_nil (s : ByteArray) (w : World) : Calls Tryz.prog 22 #[.string s, .nilIface] w fun e w' => e = .returned .nilIface ∧ w' = w := by
  go_enter Tryz.func22, Tryz.ntmps22
  go_wp2
  go_ret
  exact ⟨rfl, rfl⟩
theorem wrap_any (s : ByteArray) (t : TypeId) (y : Value) (w : World) : Calls Tryz.prog 22 #[.string s, .iface t y] w fun e w' => e = .returned (.iface 61 (.pointer (some ⟨w.heap.size, 0, none⟩))) ∧ w' = w.alloc (.cells #[.string s, .iface t y] 64) := by
  go_enter Tryz.func22, Tryz.ntmps22
  go_wp2
  go_ret
  exact ⟨rfl, rfl⟩
set_option maxRecDepth 100000 in
set_option maxHeartbeats 4000000 in
theorem Code_e (x : Int) (l : List ByteArray) (v : Value) (w : World) (hE : EtAt w) (hc : Chn w l (.iface 48 (.int .i64 x)) v) :
    Calls Tryz.prog 24 #[v] w fun e w' => e = .returned (.int .i64 (x)) ∧ Below w.heap.size w w' := by
  have C := As_ee x 0 l v _ _ (hE.later (Grew.alloc (Grew.refl w) _)) (hc.later (Grew.alloc (Grew.refl w) _)) (objAt_alloc_at _ _ _ rfl)
  have hb : Below w.heap.size w (w.alloc (.cells #[.int .i64 0] 48)) := Grew.alloc (Grew.refl w) _
  go_enter Tryz.func24, Tryz.ntmps24
  go_wp2_with fail
  refine C.mono ?_
  rintro e w' ⟨rfl, hb1⟩
  rw [setRow_alloc_at _ _ _ _ _ rfl] at hb1
  have ft := keep_below hb1 (objAt_alloc_at w (.cells #[.int .i64 x] 48) _ rfl)
  have lft := lt_of_objAt ft
  go_wp2
  go_ret
  exact ⟨rfl, Grew.trans (Grew.alloc (Grew.refl w) _) hb1⟩
set_option maxRecDepth 100000 in
set_option maxHeartbeats 4000000 in
theorem Code_s (a : Addr) (l : List ByteArray) (v : Value) (w : World) (hE : EtAt w) (hc : Chn w l (.iface 139 (.pointer (some a))) v) :
    Calls Tryz.prog 24 #[v] w fun e w' => e = .returned (.int .i64 (0)) ∧ Below w.heap.size w w' := by
  have C := As_es a 0 l v _ _ (hE.later (Grew.alloc (Grew.refl w) _)) (hc.later (Grew.alloc (Grew.refl w) _)) (objAt_alloc_at _ _ _ rfl)
  have hb : Below w.heap.size w (w.alloc (.cells #[.int .i64 0] 48)) := Grew.alloc (Grew.refl w) _
  go_enter Tryz.func24, Tryz.ntmps24
  go_wp2_with fail
  refine C.mono ?_
  rintro e w' ⟨rfl, hb1⟩
  go_wp2
  go_ret
  exact ⟨rfl, Grew.trans hb hb1⟩
set_option maxRecDepth 100000 in
set_option maxHeartbeats 4000000 in
theorem Code_nil  (w : World) (hE : EtAt w) :
    Calls Tryz.prog 24 #[.nilIface] w fun e w' => e = .returned (.int .i64 (0)) ∧ Below w.heap.size w w' := by
  have C := As_nil (.iface 59 (.pointer (some ⟨w.heap.size, 0, none⟩))) (w.alloc (.cells #[.int .i64 0] 48))
  have hb : Below w.heap.size w (w.alloc (.cells #[.int .i64 0] 48)) := Grew.alloc (Grew.refl w) _
  go_enter Tryz.func24, Tryz.ntmps24
  go_wp2_with fail
  refine C.mono ?_
  rintro e w' ⟨rfl, rfl⟩
  go_wp2
  go_ret
  exact ⟨rfl, hb⟩
end Go.Proofs.YtonmancgalencaaGreatDoor
namespace Go.Proofs.YtonmancgalencaaGreatDoor
open Go.RowKit Go.Extern
set_option linter.unusedVariables false
set_option linter.unusedSimpArgs false

def namesA : Array Value := #[.string ⟨#[]⟩, .string ⟨#[116, 114, 117, 110, 99, 97, 116, 101, 100]⟩, .string ⟨#[116, 114, 97, 105, 108, 105, 110, 103]⟩, .string ⟨#[118, 101, 114, 115, 105, 111, 110]⟩, .string ⟨#[115, 105, 122, 101]⟩, .string ⟨#[108, 101, 97, 102]⟩, .string ⟨#[112, 97, 116, 104]⟩, .string ⟨#[115, 116, 97, 103, 101]⟩, .string ⟨#[109, 97, 99]⟩, .string ⟨#[122, 101, 114, 111]⟩, .string ⟨#[117, 110, 107, 110, 111, 119, 110]⟩, .string ⟨#[117, 115, 101, 100]⟩, .string ⟨#[101, 99, 104, 111]⟩, .string ⟨#[115, 116, 97, 116, 101]⟩, .string ⟨#[107, 105, 110, 100]⟩, .string ⟨#[110, 97, 109, 101]⟩, .string ⟨#[114, 97, 110, 103, 101]⟩, .string ⟨#[102, 111, 114, 109]⟩, .string ⟨#[109, 97, 110, 121]⟩, .string ⟨#[110, 111, 110, 101]⟩, .string ⟨#[110, 105, 108]⟩, .string ⟨#[100, 114, 97, 119]⟩, .string ⟨#[108, 111, 110, 103]⟩]
def refsA : Array Value := #[.string ⟨#[116, 114, 117, 110, 99, 97, 116, 101, 100]⟩, .string ⟨#[116, 114, 97, 105, 108, 105, 110, 103]⟩, .string ⟨#[118, 101, 114, 115, 105, 111, 110]⟩, .string ⟨#[115, 105, 122, 101]⟩, .string ⟨#[108, 101, 97, 102]⟩, .string ⟨#[112, 97, 116, 104]⟩, .string ⟨#[115, 116, 97, 103, 101]⟩, .string ⟨#[109, 97, 99]⟩, .string ⟨#[122, 101, 114, 111]⟩, .string ⟨#[117, 110, 107, 110, 111, 119, 110]⟩, .string ⟨#[117, 115, 101, 100]⟩, .string ⟨#[101, 99, 104, 111]⟩, .string ⟨#[115, 116, 97, 116, 101]⟩, .string ⟨#[107, 105, 110, 100]⟩, .string ⟨#[110, 97, 109, 101]⟩, .string ⟨#[114, 97, 110, 103, 101]⟩, .string ⟨#[102, 111, 114, 109]⟩, .string ⟨#[109, 97, 110, 121]⟩, .string ⟨#[110, 111, 110, 101]⟩, .string ⟨#[110, 105, 108]⟩, .string ⟨#[100, 114, 97, 119]⟩, .string ⟨#[108, 111, 110, 103]⟩]
/-- an error number's word -/
def nameB (k : Nat) : ByteArray := match namesA[k]? with | some (.string s) => s | _ => ⟨#[]⟩
def otherB : ByteArray := ⟨#[111, 116, 104, 101, 114]⟩
def nameE (e : Int) : ByteArray := if 1 ≤ e ∧ e < 23 then nameB e.toNat else otherB
theorem namesA_at (k : Nat) (h : k < 23) : namesA[k]? = some (.string (nameB k)) := by
  obtain rfl | rfl | rfl | rfl | rfl | rfl | rfl | rfl | rfl | rfl | rfl | rfl | rfl | rfl | rfl | rfl | rfl | rfl | rfl | rfl | rfl | rfl | rfl := (by omega : k = 0 ∨ k = 1 ∨ k = 2 ∨ k = 3 ∨ k = 4 ∨ k = 5 ∨ k = 6 ∨ k = 7 ∨ k = 8 ∨ k = 9 ∨ k = 10 ∨ k = 11 ∨ k = 12 ∨ k = 13 ∨ k = 14 ∨ k = 15 ∨ k = 16 ∨ k = 17 ∨ k = 18 ∨ k = 19 ∨ k = 20 ∨ k = 21 ∨ k = 22) <;> rfl
theorem refsA_at (k : Nat) (h : k < 22) : refsA[k]? = some (.string (nameB (k + 1))) := by
  obtain rfl | rfl | rfl | rfl | rfl | rfl | rfl | rfl | rfl | rfl | rfl | rfl | rfl | rfl | rfl | rfl | rfl | rfl | rfl | rfl | rfl | rfl := (by omega : k = 0 ∨ k = 1 ∨ k = 2 ∨ k = 3 ∨ k = 4 ∨ k = 5 ∨ k = 6 ∨ k = 7 ∨ k = 8 ∨ k = 9 ∨ k = 10 ∨ k = 11 ∨ k = 12 ∨ k = 13 ∨ k = 14 ∨ k = 15 ∨ k = 16 ∨ k = 17 ∨ k = 18 ∨ k = 19 ∨ k = 20 ∨ k = 21) <;> rfl
theorem nameE_in (k : Nat) (h1 : 1 ≤ k) (h : k < 23) : nameE (k : Int) = nameB k := by unfold nameE; rw [if_pos ⟨by omega, by omega⟩]; rfl
theorem nameE_out (e : Int) (h : e < 1 ∨ 23 ≤ e) : nameE e = otherB := if_neg (by omega)
theorem nameE_size (e : Int) : (nameE e).size ≤ 9 := by
  by_cases h : 1 ≤ e ∧ e < 23
  · obtain ⟨k, rfl⟩ := Int.eq_ofNat_of_zero_le (show 0 ≤ e by omega)
    rw [nameE_in k (by omega) (by omega)]
    have hk : k < 23 := by omega
    obtain rfl | rfl | rfl | rfl | rfl | rfl | rfl | rfl | rfl | rfl | rfl | rfl | rfl | rfl | rfl | rfl | rfl | rfl | rfl | rfl | rfl | rfl | rfl := (by omega : k = 0 ∨ k = 1 ∨ k = 2 ∨ k = 3 ∨ k = 4 ∨ k = 5 ∨ k = 6 ∨ k = 7 ∨ k = 8 ∨ k = 9 ∨ k = 10 ∨ k = 11 ∨ k = 12 ∨ k = 13 ∨ k = 14 ∨ k = 15 ∨ k = 16 ∨ k = 17 ∨ k = 18 ∨ k = 19 ∨ k = 20 ∨ k = 21 ∨ k = 22) <;> decide
  · rw [nameE_out e (by omega)]; decide
def sepB : ByteArray := ⟨#[58, 32]⟩
/-- notes, one behind the other -/
def catN (acc : ByteArray) : List ByteArray → ByteArray
  | [] => acc
  | s :: l => catN (acc ++ s ++ sepB) l
set_option maxRecDepth 100000 in
set_option maxHeartbeats 4000000 in
theorem errno_text (e : Int) (w : World) : Calls Tryz.prog 215 #[.int .i64 e] w fun e' w' => e' = .returned (.string (nameE e)) ∧ Below w.heap.size w w' := by
  have hb : Below w.heap.size w (w.alloc (.cells namesA 9)) := Grew.alloc (Grew.refl w) _
  by_cases h : 1 ≤ e ∧ e < 23
  · obtain rfl | rfl | rfl | rfl | rfl | rfl | rfl | rfl | rfl | rfl | rfl | rfl | rfl | rfl | rfl | rfl | rfl | rfl | rfl | rfl | rfl | rfl := (by omega : e = 1 ∨ e = 2 ∨ e = 3 ∨ e = 4 ∨ e = 5 ∨ e = 6 ∨ e = 7 ∨ e = 8 ∨ e = 9 ∨ e = 10 ∨ e = 11 ∨ e = 12 ∨ e = 13 ∨ e = 14 ∨ e = 15 ∨ e = 16 ∨ e = 17 ∨ e = 18 ∨ e = 19 ∨ e = 20 ∨ e = 21 ∨ e = 22)
    all_goals
      go_enter Tryz.func215, Tryz.ntmps215
      go_wp2
      go_ret
      exact ⟨rfl, hb⟩
  · rw [nameE_out e (by omega)]
    rcases (by omega : e < 1 ∨ (¬ (e < 1) ∧ 23 ≤ e)) with h1 | ⟨h1, h2⟩
    all_goals
      go_enter Tryz.func215, Tryz.ntmps215
      go_wp2
      go_ret
      exact ⟨rfl, hb⟩
set_option maxRecDepth 100000 in
set_option maxHeartbeats 4000000 in
theorem rname_text (e : Int) (w : World) : Calls Tryz.prog 73 #[.int .i64 e] w fun e' w' => e' = .returned (.string (nameE e)) ∧ Below w.heap.size w w' := by
  have hb : Below w.heap.size w (w.alloc (.cells refsA 9)) := Grew.alloc (Grew.refl w) _
  by_cases h : 1 ≤ e ∧ e < 23
  · obtain rfl | rfl | rfl | rfl | rfl | rfl | rfl | rfl | rfl | rfl | rfl | rfl | rfl | rfl | rfl | rfl | rfl | rfl | rfl | rfl | rfl | rfl := (by omega : e = 1 ∨ e = 2 ∨ e = 3 ∨ e = 4 ∨ e = 5 ∨ e = 6 ∨ e = 7 ∨ e = 8 ∨ e = 9 ∨ e = 10 ∨ e = 11 ∨ e = 12 ∨ e = 13 ∨ e = 14 ∨ e = 15 ∨ e = 16 ∨ e = 17 ∨ e = 18 ∨ e = 19 ∨ e = 20 ∨ e = 21 ∨ e = 22)
    all_goals
      go_enter Tryz.func73, Tryz.ntmps73
      go_wp2
      go_ret
      exact ⟨rfl, hb⟩
  · rw [nameE_out e (by omega)]
    rcases (by omega : e < 1 ∨ (¬ (e < 1) ∧ 23 ≤ e)) with h1 | ⟨h1, h2⟩
    all_goals
      go_enter Tryz.func73, Tryz.ntmps73
      go_wp2
      go_ret
      exact ⟨rfl, hb⟩
end Go.Proofs.YtonmancgalencaaGreatDoor
namespace Go.Proofs.YtonmancgalencaaGreatDoor
open Go.RowKit Go.Extern
set_option linter.unusedVariables false
set_option linter.unusedSimpArgs false

def strL (F : Nat → ByteArray) (n : Nat) : List Value := (List.range n).map fun i => .string (F i)
theorem strL_succ (F : Nat → ByteArray) (n : Nat) : strL F (n + 1) = strL F n ++ [.string (F n)] := by
  unfold strL
  rw [List.range_succ, List.map_append]
  rfl
theorem strL_get (F : Nat → ByteArray) {i n : Nat} (h : i < n) : (strL F n)[i]? = some (.string (F i)) := by
  unfold strL
  rw [List.getElem?_map, List.getElem?_range h]
  rfl
theorem strs_of_own {w : World} {base n : Nat} {v : Value} {F : Nat → ByteArray} (h : w.ownsRow base 9 1 v n (strL F n)) : ∃ oa c, v = .slice oa n c ∧ StrsAt w oa n F := by
  have hh := h
  rcases h.2 with ⟨rfl, h0⟩ | ⟨g, cap, cur, rfl, hb, hg, hnc, hcm, hcs, htake⟩
  · subst h0
    exact ⟨none, 0, rfl, .inl rfl⟩
  · refine ⟨_, cap, rfl, .inr ⟨_, rfl, fun w' hb' j hj => ?_⟩⟩
    obtain ⟨_, hc⟩ := own_cell hh j _ (strL_get F hj)
    rw [add_lit0, Nat.zero_add]
    exact hc w' hb'
@[go_sem ↓ high] theorem append_strings (ty : TypeId) (cs : Array Bool) (args : Array Value) : builtin .append #[46, 46] ty cs args = appendNext #[46, 46] ty args := by unfold appendNext; rfl
theorem append_str (w W : World) (base : Nat) (v : Value) (n : Nat) (F : Nat → ByteArray) (g2 : Nat) (t2 : TypeId) (fr : Nat × Nat) (own : W.ownsRow base 9 1 v n (strL F n)) (hn : n ≤ 1048576)
    (hg2 : objAt W g2 = some (.cells #[.string (F n)] t2 fr)) (hG : Below w.heap.size w W) (hwb : w.heap.size ≤ base) (hbW : base ≤ W.heap.size) :
    ∃ g cap w', (appendNext #[46, 46] 46 #[v, .slice (some ⟨g2, 0, none⟩) 1 1]).run Tryz.prog W = .ok (.value (.slice (some ⟨g, 0, none⟩) (n + 1) cap)) w' ∧ w'.ownsRow base 9 1 (.slice (some ⟨g, 0, none⟩) (n + 1) cap) (n + 1) (strL F (n + 1)) ∧
      Below w.heap.size w w' ∧ (∀ m o, m < base → objAt W m = some o → objAt w' m = some o) := by
  obtain ⟨g, cap, w', hr, ho, hb, hk, _⟩ := append_part (i := (Tryz.prog.info? 9).get (by kernel_rfl)) (z := ((Tryz.prog.info? 9).get (by kernel_rfl)).zero.get (by kernel_rfl)) 1 16 Tryz.underlying46 (by kernel_rfl) (by kernel_rfl) (by kernel_rfl) (by kernel_rfl) (by kernel_rfl) (by decide) (by decide) 46 w W base v n (strL F n) ⟨g2, 0, none⟩ 1 1 [.string (F n)] own (by omega) (by decide) rfl
    (fun j x hx => by
      unfold objAt at hg2
      rw [add_lit0, Nat.zero_add, cell_of_row W g2 j _ _ _ hg2]
      simpa using hx) (fun x hx => by obtain rfl : x = _ := by simpa using hx
                                      rfl) hG hwb hbW
  exact ⟨g, cap, w', hr, by rw [strL_succ]; exact ho, hb, hk⟩
def lenV : Value → Nat
  | .slice _ n _ => n
  | _ => 0
/-- the texts from the i-th on, so many -/
def segN (F : Nat → ByteArray) (i : Nat) : Nat → List ByteArray
  | 0 => []
  | k + 1 => F i :: segN F (i + 1) k
theorem segN_cons (F : Nat → ByteArray) {j n : Nat} (h : j < n) : segN F j (n - j) = F j :: segN F (j + 1) (n - (j + 1)) := by
  rw [show n - j = (n - (j + 1)) + 1 by omega]
  rfl
set_option maxRecDepth 100000 in
set_option maxHeartbeats 4000000 in
theorem equalS_any (oa ob : Option Addr) (n c d : Nat) (F : Nat → ByteArray) (w : World) (hn : n ≤ 100000) (hA : StrsAt w oa n F) (hB : StrsAt w ob n F) :
    Calls Tryz.prog 26 #[.slice oa n c, .slice ob n d] w fun e w' => e = .returned (.bool true) ∧ Below w.heap.size w w' := by
  have HA : Hid (StrsAt w oa n F) := hA
  have HB : Hid (StrsAt w ob n F) := hB
  clear hA hB
  go_enter Tryz.func26, Tryz.ntmps26
  go_wp2_with fail
  go_loopw [13, 5] (fun i _ wr => ∃ k : Nat, k ≤ n ∧ i = .int .i64 k ∧ Below w.heap.size w wr) (fun i _ _ => n - (intOf i).toNat)
  case atStart => exact ⟨0, by omega, rfl, Grew.refl _⟩
  case round =>
    obtain ⟨k, hk, rfl, hM⟩ := hrel
    by_cases hlt : k < n
    · obtain ⟨ad, rfl, h1⟩ := HA.out.resolve_left (by omega)
      obtain ⟨bd, rfl, h2⟩ := HB.out.resolve_left (by omega)
      have l1 := fun q : More => h1 _ (Grew.more hM q) k hlt
      have l2 := fun q : More => h2 _ (Grew.more hM q) k hlt
      have hi1 : (k : Int) < (n : Int) := by omega
      have hi0 : (0 : Int) ≤ (k : Int) := by omega
      clear h1 h2
      go_wp2_with fail
      ((first | (with_reducible refine wp_region_on (by kernel_rfl) (by kernel_rfl) ?_) | refine wp_region_more (by kernel_rfl) (by kernel_rfl) ?_); (repeat (first | go_big_quiet_skip | (go_big_quiet_want; go_big_quiet_op; first | go_big_quiet_on | (apply Exists.intro; refine ⟨fun _ => ?_, ?_⟩; (focus (fail)); go_big_quiet_on)))); refine wpQuiet_nil ?_; rintro _ ⟨mq, rfl⟩)
      have hM2 := Grew.trans hM (below_more wr mq)
      clear l1 l2
      generalize more wr mq = w2 at *
      go_wp2
      go_roundw
      case rel => first | exact ⟨k + 1, by omega, by go_num, hM2⟩ | ((repeat' apply Exists.intro) <;> first | exact ⟨⟨k + 1, by omega, by go_num, hM2⟩, rfl⟩ | exact undef)
      case measure => (simp [intOf] <;> omega)
    · obtain rfl : k = n := by omega
      go_wp2
      go_ret
      exact ⟨rfl, hM⟩
set_option maxRecDepth 100000 in
set_option maxHeartbeats 4000000 in
theorem notes_e (x : Int) (F : Nat → ByteArray) (n : Nat) (v : Value) (w : World) (hE : EtAt w) (hc0 : Chn w (segN F 0 n) (.iface 48 (.int .i64 x)) v) (hn : n ≤ 1000) :
    Calls Tryz.prog 27 #[v] w fun e w' => ∃ oa c, e = .returned (.slice oa n c) ∧ StrsAt w' oa n F ∧ Below w.heap.size w w' := by
  have HE : Hid (EtAt w) := hE
  have hG0 : Below w.heap.size w (w.alloc (.cells #[.pointer none] 61)) := Grew.alloc (Grew.refl _) _
  have ht0 : objAt (w.alloc (.cells #[.pointer none] 61)) w.heap.size = some (.cells #[.pointer none] 61) := objAt_alloc_at _ _ _ rfl
  clear hE
  go_enter Tryz.func27, Tryz.ntmps27
  go_wp2_with fail
  go_loopw [0, 3] (fun v ns wr => ∃ (j : Nat) (v0 n0 : Value) (p : Option Addr), n0 = ns ∧ v0 = v ∧ j ≤ n ∧ Below w.heap.size w wr ∧ Chn w (segN F j (n - j)) (.iface 48 (.int .i64 x)) v0 ∧ objAt wr w.heap.size = some (.cells #[.pointer p] 61) ∧ Hid (wr.ownsRow (w.heap.size + 1) 9 1 n0 j (strL F j)) ∧ lenV n0 = j) (fun _ ns _ => n - lenV ns)
  case atStart => exact ⟨0, _, _, none, rfl, rfl, by omega, hG0, by rw [Nat.sub_zero]; exact hc0, ht0, World.ownsRow_nil _ _ _ _, rfl⟩
  case round =>
    clear hG0 ht0 hc0
    obtain ⟨j, v0, n0, p, rfl, rfl, hj, hG, hc, ht, OWN, hlen⟩ := hrel
    have lt_ := lt_of_objAt ht
    have HEr := HE.out.later hG
    by_cases hlt : j < n
    · rw [segN_cons F hlt] at hc
      obtain ⟨g, u, rfl, hg, hcu⟩ := hc
      have lg := lt_of_objAt hg
      have hh := As_fhit g p w.heap.size wr HEr ht
      go_wp2_with fail
      refine hh.mono ?_
      rintro e w2 ⟨rfl, hb2⟩
      have hG2 : Below w.heap.size w w2 := Grew.trans (Grew.setRow hG _ _ (Nat.le_refl _)) hb2
      have ht2 := keep_below hb2 (keep_row #[.pointer (some ⟨g, 0, none⟩)] ht)
      have OWN2 : Hid (w2.ownsRow (w.heap.size + 1) 9 1 n0 j (strL F j)) := own_later (own_setRow OWN.out (Nat.lt_succ_self _)) hb2
      have fg := keep_below hG2 hg
      clear hb2 hG ht OWN hh lt_ HEr
      have lt2 := lt_of_objAt ht2
      have lfg := lt_of_objAt fg
      have hz := hG2.size
      obtain ⟨g3, c3, w3, hr3, own3, hb3, hk3⟩ := append_str w (w2.alloc (.cells #[.string (F j)] 9)) (w.heap.size + 1) n0 j F w2.heap.size _ _ (World.ownsRow.alloc OWN2.out _) (by omega) (objAt_alloc_at _ _ _ rfl) (Grew.alloc hG2 _) (Nat.le_succ _) (by simp; omega)
      have ht3 := hk3 _ _ (Nat.lt_succ_self _) (keep_alloc _ ht2)
      have fg3 := keep_below hb3 hg
      have lt3 := lt_of_objAt ht3
      have lfg3 := lt_of_objAt fg3
      have OWN3 : Hid (w3.ownsRow (w.heap.size + 1) 9 1 (.slice (some ⟨g3, 0, none⟩) (j + 1) c3) (j + 1) (strL F (j + 1))) := own3
      clear own3 OWN2 hk3
      go_wp2
      go_roundw
      case rel => first | exact ⟨j + 1, _, _, _, rfl, rfl, by omega, hb3, hcu, ht3, OWN3, rfl⟩ | ((repeat' apply Exists.intro) <;> first | exact ⟨⟨j + 1, _, _, _, rfl, rfl, by omega, hb3, hcu, ht3, OWN3, rfl⟩, rfl⟩ | exact undef)
      case measure => (show n - (j + 1) < n - lenV n0; omega)
    · obtain rfl : n = j := by omega
      rw [Nat.sub_self, segN] at hc
      obtain rfl : v0 = .iface 48 (.int .i64 x) := hc
      have hh := As_fe x p w.heap.size wr HEr ht
      obtain ⟨oa2, c2, rfl, hS⟩ := strs_of_own OWN.out
      have HS : Hid (StrsAt wr oa2 n F) := hS
      clear OWN hS
      go_wp2_with fail
      refine hh.mono ?_
      rintro e w2 ⟨rfl, hb2⟩
      go_wp2
      go_ret
      exact ⟨oa2, c2, rfl, HS.out.later hb2, Grew.trans hG hb2⟩
set_option maxRecDepth 100000 in
set_option maxHeartbeats 4000000 in
theorem notes_s (a : Addr) (F : Nat → ByteArray) (n : Nat) (v : Value) (w : World) (hE : EtAt w) (hc0 : Chn w (segN F 0 n) (.iface 139 (.pointer (some a))) v) (hn : n ≤ 1000) :
    Calls Tryz.prog 27 #[v] w fun e w' => ∃ oa c, e = .returned (.slice oa n c) ∧ StrsAt w' oa n F ∧ Below w.heap.size w w' := by
  have HE : Hid (EtAt w) := hE
  have hG0 : Below w.heap.size w (w.alloc (.cells #[.pointer none] 61)) := Grew.alloc (Grew.refl _) _
  have ht0 : objAt (w.alloc (.cells #[.pointer none] 61)) w.heap.size = some (.cells #[.pointer none] 61) := objAt_alloc_at _ _ _ rfl
  clear hE
  go_enter Tryz.func27, Tryz.ntmps27
  go_wp2_with fail
  go_loopw [0, 3] (fun v ns wr => ∃ (j : Nat) (v0 n0 : Value) (p : Option Addr), n0 = ns ∧ v0 = v ∧ j ≤ n ∧ Below w.heap.size w wr ∧ Chn w (segN F j (n - j)) (.iface 139 (.pointer (some a))) v0 ∧ objAt wr w.heap.size = some (.cells #[.pointer p] 61) ∧ Hid (wr.ownsRow (w.heap.size + 1) 9 1 n0 j (strL F j)) ∧ lenV n0 = j) (fun _ ns _ => n - lenV ns)
  case atStart => exact ⟨0, _, _, none, rfl, rfl, by omega, hG0, by rw [Nat.sub_zero]; exact hc0, ht0, World.ownsRow_nil _ _ _ _, rfl⟩
  case round =>
    clear hG0 ht0 hc0
    obtain ⟨j, v0, n0, p, rfl, rfl, hj, hG, hc, ht, OWN, hlen⟩ := hrel
    have lt_ := lt_of_objAt ht
    have HEr := HE.out.later hG
    by_cases hlt : j < n
    · rw [segN_cons F hlt] at hc
      obtain ⟨g, u, rfl, hg, hcu⟩ := hc
      have lg := lt_of_objAt hg
      have hh := As_fhit g p w.heap.size wr HEr ht
      go_wp2_with fail
      refine hh.mono ?_
      rintro e w2 ⟨rfl, hb2⟩
      have hG2 : Below w.heap.size w w2 := Grew.trans (Grew.setRow hG _ _ (Nat.le_refl _)) hb2
      have ht2 := keep_below hb2 (keep_row #[.pointer (some ⟨g, 0, none⟩)] ht)
      have OWN2 : Hid (w2.ownsRow (w.heap.size + 1) 9 1 n0 j (strL F j)) := own_later (own_setRow OWN.out (Nat.lt_succ_self _)) hb2
      have fg := keep_below hG2 hg
      clear hb2 hG ht OWN hh lt_ HEr
      have lt2 := lt_of_objAt ht2
      have lfg := lt_of_objAt fg
      have hz := hG2.size
      obtain ⟨g3, c3, w3, hr3, own3, hb3, hk3⟩ := append_str w (w2.alloc (.cells #[.string (F j)] 9)) (w.heap.size + 1) n0 j F w2.heap.size _ _ (World.ownsRow.alloc OWN2.out _) (by omega) (objAt_alloc_at _ _ _ rfl) (Grew.alloc hG2 _) (Nat.le_succ _) (by simp; omega)
      have ht3 := hk3 _ _ (Nat.lt_succ_self _) (keep_alloc _ ht2)
      have fg3 := keep_below hb3 hg
      have lt3 := lt_of_objAt ht3
      have lfg3 := lt_of_objAt fg3
      have OWN3 : Hid (w3.ownsRow (w.heap.size + 1) 9 1 (.slice (some ⟨g3, 0, none⟩) (j + 1) c3) (j + 1) (strL F (j + 1))) := own3
      clear own3 OWN2 hk3
      go_wp2
      go_roundw
      case rel => first | exact ⟨j + 1, _, _, _, rfl, rfl, by omega, hb3, hcu, ht3, OWN3, rfl⟩ | ((repeat' apply Exists.intro) <;> first | exact ⟨⟨j + 1, _, _, _, rfl, rfl, by omega, hb3, hcu, ht3, OWN3, rfl⟩, rfl⟩ | exact undef)
      case measure => (show n - (j + 1) < n - lenV n0; omega)
    · obtain rfl : n = j := by omega
      rw [Nat.sub_self, segN] at hc
      obtain rfl : v0 = .iface 139 (.pointer (some a)) := hc
      have hh := As_fs a p w.heap.size wr HEr ht
      obtain ⟨oa2, c2, rfl, hS⟩ := strs_of_own OWN.out
      have HS : Hid (StrsAt wr oa2 n F) := hS
      clear OWN hS
      go_wp2_with fail
      refine hh.mono ?_
      rintro e w2 ⟨rfl, hb2⟩
      go_wp2
      go_ret
      exact ⟨oa2, c2, rfl, HS.out.later hb2, Grew.trans hG hb2⟩
set_option maxRecDepth 100000 in
set_option maxHeartbeats 4000000 in
theorem notes_nil (w : World) : Calls Tryz.prog 27 #[.nilIface] w fun e w' => e = .returned (.slice none 0 0) ∧ Below w.heap.size w w' := by
  go_enter Tryz.func27, Tryz.ntmps27
  go_wp2_with fail
  refine wp_loop_rounds 1 ?_
  rw [rounds_succ]
  go_wp2_with (go_at_call 28; refine (As_nil _ _).mono ?_; rintro e w' ⟨rfl, rfl⟩)
  go_ret
  exact ⟨rfl, Grew.alloc (Grew.refl _) _⟩
theorem first_none (w : World) : Calls Tryz.prog 32 #[.slice none 0 0] w fun e w' => e = .returned .nilIface ∧ w' = w := by
  go_enter Tryz.func32, Tryz.ntmps32
  go_wp2_with fail
  refine wp_loop_rounds 1 ?_
  rw [rounds_succ]
  go_wp2
  go_ret
  exact ⟨rfl, rfl⟩
theorem first_nils (g : Nat) (w : World) (h : objAt w g = some (.cells #[.nilIface, .nilIface] 50)) : Calls Tryz.prog 32 #[.slice (some ⟨g, 0, none⟩) 2 2] w fun e w' => e = .returned .nilIface ∧ w' = w := by
  go_enter Tryz.func32, Tryz.ntmps32
  go_wp2_with fail
  refine wp_loop_rounds 3 ?_
  rw [rounds_succ]
  go_wp2_with fail
  rw [rounds_succ]
  go_wp2_with fail
  rw [rounds_succ]
  go_wp2
  go_ret
  exact ⟨rfl, rfl⟩
theorem first_two (g : Nat) (t t' : TypeId) (y y' : Value) (w : World) (h : objAt w g = some (.cells #[.nilIface, .iface t y, .iface t' y'] 50)) : Calls Tryz.prog 32 #[.slice (some ⟨g, 0, none⟩) 3 3] w fun e w' => e = .returned (.iface t y) ∧ w' = w := by
  go_enter Tryz.func32, Tryz.ntmps32
  go_wp2_with fail
  refine wp_loop_rounds 2 ?_
  rw [rounds_succ]
  go_wp2_with fail
  rw [rounds_succ]
  go_wp2
  go_ret
  exact ⟨rfl, rfl⟩
theorem funwrap_nil (w : World) : Calls Tryz.prog 31 #[.pointer none] w fun e w' => e = .returned .nilIface ∧ w' = w := by
  go_enter Tryz.func31, Tryz.ntmps31
  go_wp2
  go_ret
  exact ⟨rfl, rfl⟩
theorem new_any (s : ByteArray) (w : World) : Calls Tryz.prog 29 #[.string s] w fun e w' => e = .returned (.iface 139 (.pointer (some ⟨w.heap.size, 0, none⟩))) ∧ w' = w.alloc (.cells #[.string s] 141) := by
  go_enter Tryz.func29, Tryz.ntmps29
  go_wp2
  go_ret
  exact ⟨rfl, rfl⟩
theorem ferror_nil (w : World) : Calls Tryz.prog 30 #[.pointer none] w fun e w' => e = .returned (.string ⟨#[]⟩) ∧ Below w.heap.size w w' := by
  have hB0 : BldAt (w.alloc (.cells #[.pointer none, .slice none 0 0] 145)) w.heap.size ⟨#[]⟩ := bld_of (objAt_alloc_at _ _ _ rfl)
  have hst := bld_string hB0
  have hG0 : Below w.heap.size w (w.alloc (.cells #[.pointer none, .slice none 0 0] 145)) := Grew.alloc (Grew.refl _) _
  clear hB0
  go_enter Tryz.func30, Tryz.ntmps30
  go_wp2_with fail
  refine wp_loop_rounds 1 ?_
  rw [rounds_succ]
  go_wp2_with fail
  refine hst.mono ?_
  rintro e W2 ⟨rfl, hb2⟩
  go_wp2
  go_ret
  exact ⟨rfl, hG0.trans hb2⟩
set_option maxRecDepth 100000 in
set_option maxHeartbeats 4000000 in
theorem ferror_bare (s : ByteArray) (g : Nat) (w : World) (hg : objAt w g = some (.cells #[.string s, .nilIface] 64)) (hs : s.size ≤ 1000) : Calls Tryz.prog 30 #[.pointer (some ⟨g, 0, none⟩)] w fun e w' => e = .returned (.string (⟨#[]⟩ ++ s)) ∧ Below w.heap.size w w' := by
  have hB0 : BldAt (w.alloc (.cells #[.pointer none, .slice none 0 0] 145)) w.heap.size ⟨#[]⟩ := bld_of (objAt_alloc_at _ _ _ rfl)
  have hw := bld_write s hB0 (by show 0 + _ ≤ _; omega)
  have hG0 : Below w.heap.size w (w.alloc (.cells #[.pointer none, .slice none 0 0] 145)) := Grew.alloc (Grew.refl _) _
  have lg := lt_of_objAt hg
  clear hB0
  go_enter Tryz.func30, Tryz.ntmps30
  go_wp2_with fail
  refine wp_loop_rounds 1 ?_
  rw [rounds_succ]
  go_wp2_with fail
  refine hw.mono ?_
  rintro e W2 ⟨rfl, hB2, hb2⟩
  have hG2 := hG0.trans hb2
  have fg := keep_below hG2 hg
  have hst := bld_string hB2
  have lfg := lt_of_objAt fg
  clear hw hB2 hb2
  go_wp2_with fail
  refine hst.mono ?_
  rintro e W3 ⟨rfl, hb3⟩
  go_wp2
  go_ret
  exact ⟨rfl, hG2.trans hb3⟩
end Go.Proofs.YtonmancgalencaaGreatDoor
namespace Go.Proofs.YtonmancgalencaaGreatDoor
open Go.RowKit Go.Extern
set_option linter.unusedVariables false
set_option linter.unusedSimpArgs false

theorem catN_cons (acc s : ByteArray) (l : List ByteArray) : catN acc (s :: l) = catN (acc ++ s ++ ⟨#[58, 32]⟩) l := rfl
theorem catN_nil (acc : ByteArray) : catN acc [] = acc := rfl
theorem segN_len (F : Nat → ByteArray) : ∀ k i, (segN F i k).length = k
  | 0, _ => rfl
  | k + 1, i => by rw [segN, List.length_cons, segN_len F k]
theorem segN_mem {F : Nat → ByteArray} {n m : Nat} (h : ∀ i, i < n → (F i).size ≤ m) : ∀ k i, i + k ≤ n → ∀ s ∈ segN F i k, s.size ≤ m
  | 0, _, _, s, hs => by cases hs
  | k + 1, i, hi, s, hs => by
    rcases List.mem_cons.1 hs with rfl | hs
    · exact h i (by omega)
    · exact segN_mem h k (i + 1) (by omega) s hs
theorem segN_more (F : Nat → ByteArray) (acc : ByteArray) {j n : Nat} (h : j < n) : catN (acc ++ F j ++ sepB) (segN F (j + 1) (n - (j + 1))) = catN acc (segN F j (n - j)) := by
  rw [show n - j = (n - (j + 1)) + 1 by omega]
  rfl
theorem catN_size : ∀ (l : List ByteArray) (acc : ByteArray), (∀ s ∈ l, s.size ≤ 300) → (catN acc l).size ≤ acc.size + 302 * l.length
  | [], acc, _ => Nat.le_refl _
  | s :: l, acc, h => by
    have h1 := catN_size l (acc ++ s ++ sepB) fun s hs => h s (List.mem_cons_of_mem _ hs)
    have h2 := h s (List.mem_cons_self ..)
    rw [ByteArray.size_append, ByteArray.size_append] at h1
    have h3 : sepB.size = 2 := rfl
    show (catN (acc ++ s ++ sepB) l).size ≤ _
    rw [List.length_cons]
    omega
attribute [local irreducible] catN nameE segN
set_option maxRecDepth 100000 in
set_option maxHeartbeats 4000000 in
theorem rtext_any (F : Nat → ByteArray) (oa : Option Addr) (n c : Nat) (x : Int) (w : World) (hS : StrsAt w oa n F) (hF : ∀ i, i < n → (F i).size ≤ 300) (hn : n ≤ 60) :
    Calls Tryz.prog 23 #[.slice oa n c, .int .i64 x] w fun e w' => e = .returned (.string (catN ⟨#[]⟩ (segN F 0 n) ++ nameE x)) ∧ Below w.heap.size w w' := by
  have HS : Hid (StrsAt w oa n F) := hS
  have HF : Hid (∀ i, i < n → (F i).size ≤ 300) := hF
  have hts := catN_size (segN F 0 n) ⟨#[]⟩ (segN_mem hF n 0 (by omega))
  rw [segN_len, show (⟨#[]⟩ : ByteArray).size = 0 from rfl] at hts
  obtain ⟨TX, hTX⟩ : ∃ TX, TX = catN ⟨#[]⟩ (segN F 0 n) := ⟨_, rfl⟩
  rw [← hTX] at hts ⊢
  have HT : Hid (TX = catN ⟨#[]⟩ (segN F 0 n)) := hTX
  have f3 : FitsS TX (nameE x) := by have := nameE_size x; unfold FitsS; omega
  have cn := fun W : World => rname_text x W
  generalize nameE x = NX at *
  clear hS hF hTX
  go_enter Tryz.func23, Tryz.ntmps23
  go_wp2_with fail
  go_loopw [10, 5, 7] (fun i s _ wr => ∃ (j : Nat) (acc : ByteArray), j ≤ n ∧ i = .int .i64 j ∧ s = .string acc ∧ wr = w ∧ acc.size ≤ 302 * j ∧ Hid (catN acc (segN F j (n - j)) = TX)) (fun i _ _ _ => n - (intOf i).toNat)
  case atStart => exact ⟨0, ⟨#[]⟩, by omega, rfl, rfl, rfl, by decide, by rw [Nat.sub_zero]; exact HT.out.symm⟩
  case round =>
    obtain ⟨j, acc, hj, rfl, rfl, rfl, hsz, HC⟩ := hrel
    by_cases hlt : j < n
    · obtain ⟨ad, rfl, hcells⟩ : ∃ ad : Addr, oa = some ad ∧ ∀ w', Below wr.heap.size wr w' → ∀ j, j < n → w'.cell? (ad.add j) = some (.string (F j)) := by
        rcases HS.out with h | h
        · omega
        · exact h
      have hcell := hcells wr (Grew.refl _) j hlt
      have hFj := HF.out j hlt
      have f1 : FitsS acc (F j) := by unfold FitsS; omega
      have f2 : FitsS (acc ++ F j) ⟨#[58, 32]⟩ := by unfold FitsS; rw [ByteArray.size_append]; show _ + 2 ≤ _; omega
      have hm : Hid (catN (acc ++ F j ++ ⟨#[58, 32]⟩) (segN F (j + 1) (n - (j + 1))) = TX) := (segN_more F acc hlt).trans HC.out
      have hz : (acc ++ F j ++ ⟨#[58, 32]⟩).size ≤ 302 * (j + 1) := by rw [ByteArray.size_append, ByteArray.size_append]; show _ + 2 ≤ _; omega
      clear hcells HC
      go_wp2
      go_roundw
      case rel => first | exact ⟨j + 1, _, by omega, by go_num, rfl, rfl, hz, hm⟩ | exact ⟨j + 1, _, by omega, by go_num, rfl, trivial, hz, hm⟩ | ((repeat' apply Exists.intro) <;> first | exact ⟨⟨j + 1, _, by omega, by go_num, rfl, trivial, hz, hm⟩, rfl⟩ | exact undef)
      case measure => (simp [intOf] <;> omega)
    · obtain rfl : n = j := by omega
      obtain rfl : acc = TX := by
        have := HC.out
        rw [Nat.sub_self, segN, catN] at this
        exact this
      go_wp2_with (go_at_call 73; refine (cn _).mono ?_; rintro e w' ⟨rfl, hb⟩)
      go_ret
      exact ⟨rfl, hb⟩
noncomputable def fdeep (w : World) : Value → Nat
  | .pointer none => 0
  | f => deep w (.iface 61 f)
set_option maxRecDepth 100000 in
set_option maxHeartbeats 4000000 in
theorem ferror_any (x : Int) (l : List ByteArray) (g : Nat) (w : World) (hc0 : Chn w l (.iface 48 (.int .i64 x)) (.iface 61 (.pointer (some ⟨g, 0, none⟩)))) (hl : l.length ≤ 60) (hs0 : ∀ s ∈ l, s.size ≤ 300) :
    Calls Tryz.prog 30 #[.pointer (some ⟨g, 0, none⟩)] w fun e w' => e = .returned (.string (catN ⟨#[]⟩ l ++ nameE x)) ∧ Below w.heap.size w w' := by
  have hbr : Bare (.iface 48 (.int .i64 x)) := bare_errno _
  have hts := catN_size l ⟨#[]⟩ hs0
  obtain ⟨TX, hTX⟩ : ∃ TX, TX = catN ⟨#[]⟩ l ++ nameE x := ⟨_, rfl⟩
  have hns := nameE_size x
  rw [← hTX]
  have cn := fun W : World => errno_text x W
  have hB0 : Hid (BldAt (w.alloc (.cells #[.pointer none, .slice none 0 0] 145)) w.heap.size ⟨#[]⟩) := bld_of (objAt_alloc_at _ _ _ rfl)
  have hG0 : Below w.heap.size w (w.alloc (.cells #[.pointer none, .slice none 0 0] 145)) := Grew.alloc (Grew.refl _) _
  have HC0 : Hid (catN ⟨#[]⟩ l ++ nameE x = TX) := hTX.symm
  have HS0 : Hid (∀ s ∈ l, s.size ≤ 300) := hs0
  generalize nameE x = NX at *
  clear hTX hs0 hts
  go_enter Tryz.func30, Tryz.ntmps30
  go_wp2_with fail
  go_loopw [0, 4, 5] (fun f _ _ wr => ∃ acc, Below w.heap.size w wr ∧ Hid (BldAt wr w.heap.size acc) ∧ ((∃ (g : Nat) (l : List ByteArray), f = .pointer (some ⟨g, 0, none⟩) ∧ Chn w l (.iface 48 (.int .i64 x)) (.iface 61 f) ∧ Hid (catN acc l ++ NX = TX) ∧ acc.size + 302 * l.length ≤ 18120 ∧ Hid (∀ s ∈ l, s.size ≤ 300)) ∨ (f = .pointer none ∧ acc = TX))) (fun f _ _ _ => fdeep w f)
  case atStart => exact ⟨_, hG0, hB0, .inl ⟨g, l, rfl, hc0, HC0, by show 0 + _ ≤ _; omega, HS0⟩⟩
  case round =>
    clear hG0 hB0 hc0 HC0 HS0 hl
    obtain ⟨acc, hG, hB, ⟨g, l, rfl, hc, HC, hsz, HS⟩ | ⟨rfl, rfl⟩⟩ := hrel
    · cases l with
      | nil => exact absurd hc.symm (hbr _)
      | cons s l =>
        obtain ⟨g', u, e, hg, hcu⟩ := hc
        cases e
        have hd : deep w u < deep w (.iface 61 (.pointer (some ⟨g, 0, none⟩))) := by
          rw [deep_eq hbr hcu, deep_eq hbr (show Chn w (s :: l) _ _ from ⟨g, u, rfl, hg, hcu⟩), List.length_cons]
          omega
        have hs1 := HS.out s (List.mem_cons_self ..)
        have HS1 : Hid (∀ s ∈ l, s.size ≤ 300) := fun s hs => HS.out s (List.mem_cons_of_mem _ hs)
        rw [List.length_cons] at hsz
        have HC1 : Hid (catN (acc ++ s ++ ⟨#[58, 32]⟩) l ++ NX = TX) := (congrArg (· ++ NX) (catN_cons acc s l)).symm.trans HC.out
        have lg := lt_of_objAt hg
        have fg := keep_below hG hg
        have hb0 := hB.out.lt
        clear HC HS
        obtain ⟨tu, y, hu⟩ : ∃ tu y, u = .iface tu y := by
          cases l with
          | nil => exact ⟨_, _, hcu⟩
          | cons s' l => obtain ⟨g', u', e, _⟩ := hcu; exact ⟨_, _, e⟩
        have write : ∀ (W : World) (a t : ByteArray), Below w.heap.size w W → BldAt W w.heap.size a → a.size + t.size ≤ 100000 → Calls Tryz.prog 79 #[.pointer (some ⟨w.heap.size, 0, none⟩), .string t] W fun e w' => e = .returned (.tuple #[.int .i64 t.size, .nilIface]) ∧ Hid (BldAt w' w.heap.size (a ++ t)) ∧ Below w.heap.size w w' := fun W a t hG hB hl =>
          (bld_write t hB (by omega)).mono fun e w' ⟨e1, h1, h2⟩ => ⟨e1, h1, hG.trans h2⟩
        have hw1 := write wr acc s hG hB.out (by omega)
        have write2 : Hid (∀ (W : World) (a t : ByteArray), Below w.heap.size w W → BldAt W w.heap.size a → a.size + t.size ≤ 100000 → Calls Tryz.prog 79 #[.pointer (some ⟨w.heap.size, 0, none⟩), .string t] W fun e w' => e = .returned (.tuple #[.int .i64 t.size, .nilIface]) ∧ Hid (BldAt w' w.heap.size (a ++ t)) ∧ Below w.heap.size w w') := write
        clear write
        have lfg := lt_of_objAt fg
        subst hu
        go_wp2_with fail
        refine hw1.mono ?_
        rintro e W2 ⟨rfl, hB2, hG2⟩
        replace fg := keep_below hG2 hg
        clear hG hB lfg hw1
        have lfg := lt_of_objAt fg
        have hz2 : (acc ++ s).size ≤ 18120 := by rw [ByteArray.size_append]; omega
        have hw2 := write2.out W2 (acc ++ s) ⟨#[58, 32]⟩ hG2 hB2.out (by show _ + 2 ≤ _; omega)
        go_wp2_with fail
        refine hw2.mono ?_
        rintro e W3 ⟨rfl, hB3, hG3⟩
        replace fg := keep_below hG3 hg
        clear hG2 hB2 lfg hw2
        have lfg := lt_of_objAt fg
        have hz3 : (acc ++ s ++ ⟨#[58, 32]⟩).size ≤ 18130 := by rw [ByteArray.size_append]; show _ + 2 ≤ _; omega
        have hz4 : (acc ++ s ++ ⟨#[58, 32]⟩).size + 302 * l.length ≤ 18120 := by rw [ByteArray.size_append, ByteArray.size_append]; show _ + 2 + _ ≤ _; omega
        generalize acc ++ s ++ ⟨#[58, 32]⟩ = acc3 at *
        cases l with
        | nil =>
          have hu : Value.iface tu y = .iface 48 (.int .i64 x) := hcu
          cases hu
          have cn3 := cn W3
          clear hcu
          go_wp2_with fail
          refine cn3.mono ?_
          rintro e W4 ⟨rfl, hb4⟩
          have hB4 : Hid (BldAt W4 w.heap.size acc3) := hB3.out.later hb4
          have hG4 := Grew.trans hG3 hb4
          have hw4 := write2.out W4 acc3 NX hG4 hB4.out (by omega)
          have HC2 : Hid (acc3 ++ NX = TX) := (congrArg (· ++ NX) (catN_nil acc3)).symm.trans HC1.out
          clear hB3 hG3 hb4 fg lfg cn3
          go_wp2_with fail
          refine hw4.mono ?_
          rintro e W5 ⟨rfl, hB5, hG5⟩
          have hB6 : Hid (BldAt W5 w.heap.size TX) := by rw [← HC2.out]; exact hB5.out
          clear hB4 hG4 hw4 hB5
          have hdd : fdeep w (.pointer none) < fdeep w (.pointer (some ⟨g, 0, none⟩)) := Nat.lt_of_le_of_lt (Nat.zero_le _) hd
          go_wp2
          go_roundw
          case rel => first | exact ⟨_, hG5, hB6, .inr ⟨rfl, rfl⟩⟩ | ((repeat' apply Exists.intro) <;> first | exact ⟨⟨_, hG5, hB6, .inr ⟨rfl, rfl⟩⟩, rfl⟩ | exact undef)
          case measure => exact hdd
        | cons s2 l2 =>
          obtain ⟨g2, u2, e2, hg2, hcu2⟩ := hcu
          cases e2
          have hdd : fdeep w (.pointer (some ⟨g2, 0, none⟩)) < fdeep w (.pointer (some ⟨g, 0, none⟩)) := hd
          have hch : Chn w (s2 :: l2) (.iface 48 (.int .i64 x)) (.iface 61 (.pointer (some ⟨g2, 0, none⟩))) := ⟨g2, u2, rfl, hg2, hcu2⟩
          clear hcu2 hg2 cn
          go_wp2
          go_roundw
          case rel => first | exact ⟨_, hG3, hB3, .inl ⟨g2, _, rfl, hch, HC1, hz4, HS1⟩⟩ | ((repeat' apply Exists.intro) <;> first | exact ⟨⟨_, hG3, hB3, .inl ⟨g2, _, rfl, hch, HC1, hz4, HS1⟩⟩, rfl⟩ | exact undef)
          case measure => exact hdd
    · have hst := bld_string hB.out
      go_wp2_with fail
      refine hst.mono ?_
      rintro e W2 ⟨rfl, hb2⟩
      go_wp2
      go_ret
      exact ⟨rfl, hG.trans hb2⟩
end Go.Proofs.YtonmancgalencaaGreatDoor
namespace Go.Proofs.YtonmancgalencaaGreatDoor
open Go.ChangeShapes Go.WideShapes Go.ChangeAt Go.RowKit
set_option linter.unusedVariables false
set_option linter.unusedSimpArgs false

theorem laid3_of {W : World} (h : laidMetH Tryz.prog [("errors.errorType", Rows.laid_errors_errorType), ("sapwood/sha.square", Rows.laid_sapwood_sha_square), ("sapwood/sha.cube", Rows.laid_sapwood_sha_cube)] W) : Tabs W ∧ EtAt W := by
  refine ⟨tabs_of_laid (laidMetH.filter (fun x => x.1 != "errors.errorType") h), ?_⟩
  have h2 : ∃ name u ty, Rows.laid_errors_errorType.handleName? (H := Unit) = some name ∧ (Tryz.prog.cutTypes.find? (·.1 == "internal/reflectlite.rtype")).map (·.2) = some u ∧ ty < Tryz.prog.types.size ∧ Tryz.prog.rowNamed ty name = true ∧ W.var? Tryz.prog "errors.errorType" = some #[.iface u (.agg #[typeHandle Tryz.prog ty])] :=
    (laidMetH_iff.1 h).2 ("errors.errorType", Rows.laid_errors_errorType) (List.mem_filter.2 ⟨List.mem_cons_self .., rfl⟩)
  obtain ⟨name, u, ty, e1, e2, e3, e4, e5⟩ := h2
  have en : name = [101, 114, 114, 111, 114] := (Option.some.inj e1).symm
  subst en
  have rt : (Tryz.prog.cutTypes.find? (·.1 == "internal/reflectlite.rtype")).map (·.2) = some 174 := by kernel_rfl
  obtain rfl := Option.some.inj (rt.symm.trans e2)
  have one : ((List.range Tryz.prog.types.size).filter fun t => Tryz.prog.rowNamed t [101, 114, 114, 111, 114]) = [50] := by kernel_rfl
  have hm : ty ∈ (List.range Tryz.prog.types.size).filter fun t => Tryz.prog.rowNamed t [101, 114, 114, 111, 114] := List.mem_filter.2 ⟨List.mem_range.2 e3, e4⟩
  rw [one] at hm
  obtain rfl := List.mem_singleton.1 hm
  have hh : typeHandle Tryz.prog 50 = .pointer (some ⟨4, 50, none⟩) := by kernel_rfl
  rw [hh] at e5
  have G0 : Tryz.prog.globalNamed "errors.errorType" = some 0 := by kernel_rfl
  unfold World.var? at e5
  rw [G0] at e5
  simp only [Option.bind_some] at e5
  split at e5
  · rename_i c t fr hx
    obtain rfl := Option.some.inj e5
    exact ⟨t, fr, hx⟩
  · cases e5
/-- a world that has them -/
noncomputable def hw0 (os : Os) : World :=
  let w0 := World.holding Tryz.prog os ⟨#[], #[], []⟩
  { w0 with heap := w0.heap.modify 0 fun
      | .cells _ t frozen => .cells #[.iface 174 (.agg #[.pointer (some ⟨4, 50, none⟩)])] t frozen
      | o => o }
noncomputable def hwL (os : Os) : World := (hw0 os).layVars Tryz.prog [("sapwood/sha.square", Rows.laid_sapwood_sha_square), ("sapwood/sha.cube", Rows.laid_sapwood_sha_cube)]
theorem hwL_os (os : Os) : (hwL os).os = os := World.layVars_os _ _ _
theorem hwL_met (os : Os) (args : Array Value) : laidMetH Tryz.prog [("errors.errorType", Rows.laid_errors_errorType), ("sapwood/sha.square", Rows.laid_sapwood_sha_square), ("sapwood/sha.cube", Rows.laid_sapwood_sha_cube)] ((hwL os).forCall (fun _ _ => 0) ⟨#[], args, []⟩).memory := by
  have h0 : laidMet Tryz.prog [("sapwood/sha.square", Rows.laid_sapwood_sha_square), ("sapwood/sha.cube", Rows.laid_sapwood_sha_cube)] (hwL os) :=
    laidMet_layVars (w0 := hw0 os) ["sapwood/sha.square", "sapwood/sha.cube"] [] rfl (by kernel_rfl) (by kernel_rfl) (by exact LaidIn.none)
  refine laidMetH_of_parts ?_ (by kernel_rfl)
  exact h0.of_heap (by simp [World.memory, World.forCall, Input.heap])
end Go.Proofs.YtonmancgalencaaGreatDoor
namespace Go.Proofs.YtonmancgalencaaGreatDoor
open Go.RowKit Go.Extern
set_option linter.unusedVariables false
set_option linter.unusedSimpArgs false

theorem setup_text : catN ⟨#[]⟩ [⟨#[115, 101, 116, 117, 112]⟩] ++ nameE 8 = ⟨#[115, 101, 116, 117, 112, 58, 32, 109, 97, 99]⟩ := by decide +kernel
theorem bare_text_size : (⟨#[115, 101, 116, 117, 112]⟩ : ByteArray).size ≤ 300 := by decide
theorem segN_zero (F : Nat → ByteArray) (i : Nat) : segN F i 0 = [] := rfl
theorem segN_succ (F : Nat → ByteArray) (i k : Nat) : segN F i (k + 1) = F i :: segN F (i + 1) k := rfl
theorem chn_iface {w : World} {l : List ByteArray} {t : TypeId} {y v : Value} (h : Chn w l (.iface t y) v) : ∃ t' y', v = .iface t' y' := by
  cases l with
  | nil => exact ⟨_, _, h⟩
  | cons s l => obtain ⟨g, u, e, _⟩ := h; exact ⟨_, _, e⟩
attribute [local irreducible] catN nameE segN
set_option maxRecDepth 100000 in
set_option maxHeartbeats 4000000 in
theorem awake15_any (aw : ∀ W : World, Tabs W → Calls Tryz.prog 72 #[] W fun e w' => e = .returned (.bool true) ∧ Below W.heap.size W w') (w : World) (hT : Tabs w) (hE : EtAt w) :
    Calls Tryz.prog 21 #[] w fun e w' => e = .returned (.bool true) ∧ Below w.heap.size w w' := by
  have hc : Chn (w.alloc (.cells #[.string ⟨#[115, 101, 116, 117, 112]⟩, .iface 48 (.int .i64 8)] 64)) [⟨#[115, 101, 116, 117, 112]⟩] (.iface 48 (.int .i64 8)) (.iface 61 (.pointer (some ⟨w.heap.size, 0, none⟩))) := ⟨_, _, rfl, objAt_alloc_at _ _ _ rfl, rfl⟩
  have hG : Below w.heap.size w (w.alloc (.cells #[.string ⟨#[115, 101, 116, 117, 112]⟩, .iface 48 (.int .i64 8)] 64)) := Grew.alloc (Grew.refl _) _
  have HT : Hid (Tabs w) := hT
  have HE : Hid (EtAt w) := hE
  have cE : Hid (∀ W, Chn W [⟨#[115, 101, 116, 117, 112]⟩] (.iface 48 (.int .i64 8)) (.iface 61 (.pointer (some ⟨w.heap.size, 0, none⟩))) → Calls Tryz.prog 30 #[.pointer (some ⟨w.heap.size, 0, none⟩)] W fun e w' => e = .returned (.string ⟨#[115, 101, 116, 117, 112, 58, 32, 109, 97, 99]⟩) ∧ Below W.heap.size W w') := fun W h => by
    have := ferror_any 8 _ _ W h (by decide) (fun s hs => List.mem_singleton.1 hs ▸ bare_text_size)
    rw [setup_text] at this
    exact this
  clear hT hE
  go_enter Tryz.func21, Tryz.ntmps21
  go_wp2_with fail
  refine (wrap_any _ _ _ _).mono ?_
  rintro e w1 ⟨rfl, rfl⟩
  generalize w.alloc (.cells #[.string ⟨#[115, 101, 116, 117, 112]⟩, .iface 48 (.int .i64 8)] 64) = w1 at *
  go_wp2_with fail
  refine (aw _ (HT.out.later hG)).mono ?_
  rintro e w2 ⟨rfl, hb⟩
  replace hc := hc.later hb
  replace hG := Grew.trans hG hb
  clear hb aw
  go_wp2_with fail
  refine (cE.out _ hc).mono ?_
  rintro e w3 ⟨rfl, hb⟩
  replace hc := hc.later hb
  replace hG := Grew.trans hG hb
  clear hb cE
  go_wp2_with fail
  refine (Code_e 8 _ _ _ (HE.out.later hG) hc).mono ?_
  rintro e w4 ⟨rfl, hb⟩
  replace hG := Grew.trans hG hb
  clear hb hc
  go_wp2
  go_ret
  exact ⟨rfl, hG⟩
set_option maxRecDepth 100000 in
set_option maxHeartbeats 4000000 in
theorem Awake14_any (aw : ∀ W : World, Tabs W → Calls Tryz.prog 9 #[] W fun e w' => e = .returned (.bool true) ∧ Below W.heap.size W w') (w : World) (hT : Tabs w) :
    Calls Tryz.prog 72 #[] w fun e w' => e = .returned (.bool true) ∧ Below w.heap.size w w' := by
  go_enter Tryz.func72, Tryz.ntmps72
  go_wp2_with fail
  refine (aw _ hT).mono ?_
  rintro e w2 ⟨rfl, hb⟩
  go_wp2
  go_ret
  exact ⟨rfl, hb⟩
set_option maxRecDepth 100000 in
set_option maxHeartbeats 4000000 in
theorem faultWraps_any (aw : ∀ W : World, Tabs W → EtAt W → Calls Tryz.prog 21 #[] W fun e w' => e = .returned (.bool true) ∧ Below W.heap.size W w') (F : Nat → ByteArray) (oa : Option Addr) (n c : Nat) (x y : Int) (w : World) (hS : StrsAt w oa n F) (hx0 : -32768 ≤ x) (hx1 : x ≤ 32767) (hy0 : -32768 ≤ y) (hy1 : y ≤ 32767) (hn9 : n ≤ 9223372036854775807) (hT : Tabs w) (hE : EtAt w) :
    Calls Tryz.prog 4 #[.slice oa n c, .int .i16 x, .int .i16 y] w fun e w' => e = .returned (.bool true) ∧ Below w.heap.size w w' := by
  have HT : Hid (Tabs w) := hT
  have HE : Hid (EtAt w) := hE
  have HS : Hid (StrsAt w oa n F) := hS
  clear hT hE hS
  go_enter Tryz.func4, Tryz.ntmps4
  go_wp2_with fail
  refine (aw _ HT.out HE.out).mono ?_
  rintro e w1 ⟨rfl, hG⟩
  clear aw
  by_cases hn : n ≤ 60
  case neg =>
    have hn6 : (60 : Int) < (n : Int) := by omega
    go_wp2
    go_ret
    exact ⟨rfl, hG⟩
  have hn6 : ¬ ((60 : Int) < (n : Int)) := by omega
  go_wp2_with fail
  go_loopw [8, 7] (fun i v wr => ∃ (k : Nat) (v0 : Value), k ≤ n ∧ i = .int .i64 ((k : Int) - 1) ∧ v0 = v ∧ Below w.heap.size w wr ∧ Chn wr (segN F k (n - k)) (.iface 48 (.int .i64 x)) v0 ∧ Hid (∀ i, k ≤ i → i < n → (F i).size ≤ 300)) (fun i _ _ => (intOf i + 1).toNat)
  case atStart => exact ⟨n, _, Nat.le_refl _, by go_num, rfl, hG, by rw [Nat.sub_self, segN_zero]; exact rfl, hid1 fun i h1 h2 => by omega⟩
  case round =>
    clear hG
    obtain ⟨k, v0, hk, rfl, rfl, hG, hc, HF⟩ := hrel
    by_cases hk0 : 1 ≤ k
    · obtain ⟨j, rfl⟩ : ∃ j, k = j + 1 := ⟨k - 1, by omega⟩
      have e1 : (((j + 1 : Nat) : Int) - 1) = (j : Int) := by omega
      rw [e1]
      obtain ⟨ad, rfl, hcells⟩ := HS.out.resolve_left (by omega)
      have hcell := hcells wr hG j (by omega)
      have hi1 : (j : Int) < (n : Int) := by omega
      have hi0 : (0 : Int) ≤ (j : Int) := by omega
      clear hcells e1
      by_cases hz : (F j).size ≤ 300
      · have hz1 : ¬ ((300 : Int) < ((F j).size : Int)) := by omega
        obtain ⟨tv, yv, rfl⟩ := chn_iface hc
        have HF2 : Hid (∀ i, j ≤ i → i < n → (F i).size ≤ 300) := hid1 fun i h1 h2 => by
          by_cases e : i = j
          · subst e; exact hz
          · exact HF.out i (by omega) h2
        have hb : Below wr.heap.size wr (wr.alloc (.cells #[.string (F j), .iface tv yv] 64)) := Grew.alloc (Grew.refl _) _
        have hc2 : Chn (wr.alloc (.cells #[.string (F j), .iface tv yv] 64)) (segN F j (n - j)) (.iface 48 (.int .i64 x)) (.iface 61 (.pointer (some ⟨wr.heap.size, 0, none⟩))) := by
          rw [segN_cons F (by omega)]
          exact ⟨_, _, rfl, objAt_alloc_at _ _ _ rfl, hc.later hb⟩
        have hG2 := Grew.trans hG hb
        have em : (intOf (.int .i64 ((j : Int) - 1)) + 1).toNat < (intOf (.int .i64 (j : Int)) + 1).toNat := by simp [intOf]
        clear HF hc hb
        go_wp2_with (go_at_call 22; refine (wrap_any _ _ _ _).mono ?_; rintro e w' ⟨rfl, rfl⟩)
        go_roundw
        case rel => first | exact ⟨j, _, by omega, by go_num, rfl, hG2, hc2, HF2⟩ | ((repeat' apply Exists.intro) <;> first | exact ⟨⟨j, _, by omega, by go_num, rfl, hG2, hc2, HF2⟩, rfl⟩ | exact undef)
        case measure => (simp [intOf] <;> omega)
      · have hz1 : (300 : Int) < ((F j).size : Int) := by omega
        go_wp2
        go_ret
        exact ⟨rfl, hG⟩
    · obtain rfl : k = 0 := by omega
      rw [Nat.sub_zero] at hc
      have hsz : Hid (∀ s ∈ segN F 0 n, s.size ≤ 300) := segN_mem (n := n) (fun i hi => HF.out i (by omega) hi) n 0 (by omega)
      have hE3 : (∃ yv, v0 = .iface 48 yv ∧ Hid (∀ W, Below wr.heap.size wr W → Calls Tryz.prog 215 #[yv] W fun e w' => e = .returned (.string (catN ⟨#[]⟩ (segN F 0 n) ++ nameE x)) ∧ Below W.heap.size W w')) ∨ (∃ yv, v0 = .iface 61 yv ∧ Hid (∀ W, Below wr.heap.size wr W → Calls Tryz.prog 30 #[yv] W fun e w' => e = .returned (.string (catN ⟨#[]⟩ (segN F 0 n) ++ nameE x)) ∧ Below W.heap.size W w')) := by
        cases n with
        | zero =>
          rw [segN_zero] at hc
          obtain rfl : v0 = .iface 48 (.int .i64 x) := hc
          refine .inl ⟨_, rfl, hid1 fun W _ => ?_⟩
          have := errno_text x W
          rw [segN_zero, catN_nil, show (⟨#[]⟩ : ByteArray) ++ nameE x = nameE x from ByteArray.empty_append]
          exact this
        | succ q =>
          have hc' := hc
          rw [segN_succ] at hc'
          obtain ⟨g, u, rfl, hg, hcu⟩ := hc'
          exact .inr ⟨_, rfl, hid1 fun W hb => ferror_any x _ g W (hc.later hb) (by rw [segN_len]; exact hn) hsz.out⟩
      have HFz : Hid (∀ i, i < n → (F i).size ≤ 300) := fun i hi => HF.out i (by omega) hi
      have HCT : Hid (∀ W, Below w.heap.size w W → Calls Tryz.prog 23 #[.slice oa n c, .int .i64 x] W fun e w' => e = .returned (.string (catN ⟨#[]⟩ (segN F 0 n) ++ nameE x)) ∧ Below W.heap.size W w') := fun W hb => rtext_any F oa n c x W (HS.out.later hb) HFz.out hn
      have HC : Hid (Chn wr (segN F 0 n) (.iface 48 (.int .i64 x)) v0) := hc
      clear hc HF hsz
      generalize catN ⟨#[]⟩ (segN F 0 n) ++ nameE x = TX at *
      have hW : Below wr.heap.size wr (wr.alloc (.cells #[.int .i64 0] 48)) := Grew.alloc (Grew.refl _) _
      have ft : objAt (wr.alloc (.cells #[.int .i64 0] 48)) wr.heap.size = some (.cells #[.int .i64 0] 48) := objAt_alloc_at _ _ _ rfl
      have hz : w.heap.size ≤ wr.heap.size := hG.size
      replace hG := Grew.trans hG hW
      rcases hE3 with ⟨yv, rfl, hce⟩ | ⟨yv, rfl, hce⟩
      all_goals
          go_wp2_with fail
          refine (hce.out _ hW).mono ?_
          rintro e w2 ⟨rfl, hb⟩
          replace hG := Grew.trans hG hb
          replace hW := Grew.trans hW hb
          replace ft := keep_below hb ft
          clear hb hce
          go_wp2_with fail
          refine (HCT.out _ hG).mono ?_
          rintro e w3 ⟨rfl, hb⟩
          replace hG := Grew.trans hG hb
          replace hW := Grew.trans hW hb
          replace ft := keep_below hb ft
          clear hb HCT
          go_wp2_with fail
          refine (Code_e x _ _ _ (HE.out.later hG) (HC.out.later hW)).mono ?_
          rintro e w4 ⟨rfl, hb⟩
          replace hG := Grew.trans hG hb
          replace hW := Grew.trans hW hb
          replace ft := keep_below hb ft
          clear hb
          go_wp2_with fail
          refine (Is_e x x _ _ _ (HC.out.later hW)).mono ?_
          rintro e w5 ⟨rfl, rfl⟩
          go_wp2_with fail
          refine (Is_e x y _ _ _ (HC.out.later hW)).mono ?_
          rintro e w6 ⟨rfl, rfl⟩
          go_wp2_with fail
          refine (notes_e x F n _ _ (HE.out.later hG) (HC.out.later hW) (by omega)).mono ?_
          rintro e w7 ⟨oN, kN, rfl, hN, hb⟩
          replace hG := Grew.trans hG hb
          replace hW := Grew.trans hW hb
          replace ft := keep_below hb ft
          have HN : Hid (StrsAt w7 oN n F) := hN
          clear hb hN
          go_wp2_with fail
          refine (equalS_any _ _ n _ _ F _ (by omega) HN.out (HS.out.later hG)).mono ?_
          rintro e w8 ⟨rfl, hb⟩
          replace hG := Grew.trans hG hb
          replace hW := Grew.trans hW hb
          replace ft := keep_below hb ft
          clear hb HN
          go_wp2_with fail
          refine (As_ee x 0 _ _ _ _ (HE.out.later hG) (HC.out.later hW) ft).mono ?_
          rintro e w9 ⟨rfl, hb⟩
          have ft9 := keep_below hb (keep_row #[.int .i64 x] ft)
          have hG9 := Grew.trans (Grew.setRow hG _ _ hz) hb
          have lft9 := lt_of_objAt ft9
          clear hb hG ft
          go_wp2
          go_ret
          exact ⟨rfl, hG9⟩
end Go.Proofs.YtonmancgalencaaGreatDoor
namespace Go.Proofs.YtonmancgalencaaGreatDoor
open Go.ChangeShapes Go.WideShapes Go.ChangeAt Go.RowKit
open Go.ChangeMaps (open_string shut_string)
set_option linter.unusedVariables false
set_option linter.unusedSimpArgs false

set_option maxRecDepth 100000 in
theorem open_strs {H : Type} {enc : TypeId × Value → H} {W : World} {held : Bool} {r : Reach} {b0 : Nat} {v : Value} {d : DataW H} {ps : List MemPlace}
    (hval : Value.okWide Tryz.prog W r b0 46 v) (hd : DataW.Trod enc Tryz.prog W 0 (fun _ => true) held 46 v d ps) :
    ∃ (oa : Option Addr) (n c : Nat) (F : Nat → ByteArray), v = .slice oa n c ∧ (n ≤ c ∧ c ≤ maxLen) ∧ StrsAt W oa n F := by
  obtain ⟨fuel, hf⟩ := hd
  obtain ⟨oa0, n0, c0, rfl⟩ := slice_of_okWide Tryz.underlying46 hval
  rcases open_strings Tryz.underlying46 Tryz.underlying9 (by kernel_rfl) hf with ⟨hcs, hx⟩ | ⟨a, len, cap, ss, hcs, _, hlc, hcm, hss, hx, hel, _⟩
  · have hv : Value.slice oa0 n0 c0 = .slice none 0 0 := by simpa [Value.cells] using hcs
    cases hv
    exact ⟨none, 0, 0, fun _ => ByteArray.empty, rfl, ⟨Nat.le_refl _, Nat.zero_le _⟩, .inl rfl⟩
  · have hv : Value.slice oa0 n0 c0 = .slice (some a) len cap := by simpa [Value.cells] using hcs
    cases hv
    simp only [if_true] at hss
    refine ⟨some a, n0, c0, fun i => ss.getD i ByteArray.empty, rfl, ⟨hlc, hcm⟩, .inr ⟨a, rfl, fun w' hb j hj => ?_⟩⟩
    have h1 := hel j (by omega)
    rw [hb.cell (cell_lt h1)]
    exact h1
theorem bounds_i16 {n : Int} (h : (Lit.int .i16 n).wf = true) : -32768 ≤ n ∧ n ≤ 32767 := by
  simp [Lit.wf, IntKind.min, IntKind.max, IntKind.signed, IntKind.bits] at h
  omega
set_option maxRecDepth 100000 in
theorem faultWraps_lifted (os : Os) (started : os.Started) (H : Type) (enc : TypeId × Value → H) :
    ReturnsInHanded {} Tryz.checked os 4 .any (fun w args => (Rows.faultWrapsSpec.pre enc Tryz.prog Tryz.f4 [] false w args ∧ laidMetH Tryz.prog Rows.faultWrapsRow.laid w) ∧ sizedMet enc Tryz.prog Tryz.f4 (OpenSpec.ofChange Rows.faultWrapsSpec) false w args)
      (Rows.faultWrapsSpec.post enc Tryz.prog Tryz.f4 false true false false) := by
  refine returnsInHanded_of_change_and (C := Tryz.checked) (X := fun w _ => laidMetH Tryz.prog Rows.faultWrapsRow.laid w) (fun _ _ _ hh h => h.of_heap hh) own started (by kernel_rfl) Tryz.func4
    (ChangeSpec.witness_shaped (enc := enc) (C := Tryz.checked) (os := os) (X := fun w _ => laidMetH Tryz.prog Rows.faultWrapsRow.laid w) false (hwL os) #[.slice none 0 0, .int .i16 0, .int .i16 0] 8 (hwL_os os)
      (World.shaped_of_ZipB (by kernel_rfl) (by kernel_rfl)) (by kernel_rfl) (by kernel_rfl) (by kernel_rfl)
      (hwL_met os _)) ?_
  intro W base args ds gs before hval0 hW _ _ hL _
  have hval : ∀ (j : Nat) t v, Tryz.f4.params[j]? = some t → args[j]? = some v → Value.okWide Tryz.prog W .any base t v := hval0
  have hW' := hW
  obtain ⟨p, q, hA0, hV, rfl, hfz, hnd⟩ := hW
  have hA : DataW.TrodAll enc Tryz.prog W 0 (fun _ => true) true Tryz.f4.params.toList args.toList ds p := hA0
  rw [Tryz.params4] at hA hval
  obtain ⟨v0, vs0, d0, ds0, p0, q0, hargs, rfl, rfl, h0, r0⟩ := trodAll_cons hA
  obtain ⟨v1, vs1, d1, ds1, p1, q1, rfl, rfl, rfl, h1, r1⟩ := trodAll_cons r0
  obtain ⟨v2, vs2, d2, ds2, p2, q2, rfl, rfl, rfl, h2, r2⟩ := trodAll_cons r1
  obtain ⟨rfl, rfl, rfl⟩ := trodAll_nil r2
  obtain rfl : args = #[v0, v1, v2] := by cases args; simp_all
  obtain ⟨rfl, rfl⟩ := trodVars_none hV
  have k0 := h0
  have lt0 : ∀ x ∈ p0, x.block < W.heap.size := by obtain ⟨m, hm⟩ := k0; exact DataW.trod_lt m _ _ _ hm
  have k1 := h1
  have lt1 : ∀ x ∈ p1, x.block < W.heap.size := by obtain ⟨m, hm⟩ := k1; exact DataW.trod_lt m _ _ _ hm
  have k2 := h2
  have lt2 : ∀ x ∈ p2, x.block < W.heap.size := by obtain ⟨m, hm⟩ := k2; exact DataW.trod_lt m _ _ _ hm
  obtain ⟨oa0, n0, c0, a0, rfl, b0, m0⟩ := open_strs (hval 0 46 v0 rfl rfl) h0
  obtain ⟨a1, rfl, _, _, w1⟩ := open_int Tryz.underlying47 (hval 1 47 v1 rfl rfl) h1
  obtain ⟨a2, rfl, _, _, w2⟩ := open_int Tryz.underlying47 (hval 2 47 v2 rfl rfl) h2
  clear hA0 hval0
  obtain ⟨hT, hE⟩ := laid3_of hL
  refine (faultWraps_any (fun W h hE => awake15_any (fun W h => Awake14_any (fun W h => awake14_any (fun W h => Awake13_any (fun W h => awake13_any (fun W h => Awake12_any aw12 W h) W h) W h) W h) W h) W h hE) a0 oa0 n0 c0 a1 a2 W m0 (bounds_i16 w1).1 (bounds_i16 w1).2 (bounds_i16 w2).1 (bounds_i16 w2).2 (by have h9 := b0.1; have h8 := b0.2; unfold maxLen at h8; omega) hT hE).mono fun e W' ⟨he, bel⟩ => ?_
  subst he
  exact ⟨_, rfl, _, _, _, [], _, [], hW', trodAll_mk1 (shut_bool Tryz.underlying4 _), (trodAll_cons_mk (Below.trod laidOut (by kernel_rfl) (of_decide_eq_true (by kernel_rfl)) k0 bel lt0) (trodAll_cons_mk (Below.trod laidOut (by kernel_rfl) (of_decide_eq_true (by kernel_rfl)) k1 bel lt1) (trodAll_cons_mk (Below.trod laidOut (by kernel_rfl) (of_decide_eq_true (by kernel_rfl)) k2 bel lt2) trodAll_mk0))), rfl, bel.frame _, fun h => by cases h⟩
set_option maxRecDepth 100000 in
theorem faultWraps_closed : joinedFacts Tryz.prog 4 Tryz.f4 (Rows.faultWrapsSpec) Rows.faultWrapsRow = true := by
  first
  | (unfold joinedFacts; rw [may_enter, make_is, lifts_is]; first | (rw [norec 4 (by decide)]; kernel_rfl) | kernel_rfl)
  | kernel_rfl
set_option maxRecDepth 100000 in
theorem faultWraps_said : Rows.FaultWrapsSaid :=
  OpenClaim.holds_of_wide 4 Tryz.f4 rfl rfl rfl rfl rfl rfl rfl ⟨rfl, rfl, rfl, rfl, rfl⟩ rfl rfl rfl rfl rfl (by kernel_rfl) Tryz.func4 (by first | exact faultWraps_closed | kernel_rfl)
    (of_decide_eq_true (by kernel_rfl)) (by unfold Func.isWrapper; first | (rw [if_pos (by decide +kernel)]; kernel_rfl) | (rw [if_neg (by decide +kernel)]; exact ⟨rfl, rfl⟩))
    (fun os started H enc _ => faultWraps_lifted os started H enc)
theorem faultWraps_card : Rows.FaultWrapsCardSaid :=
  Claim7.holds_tied_plain_at .later [] _ _ _ _ faultWraps_said (fun _ h => by cases h) (by kernel_rfl) (fun _ h => by cases h) faultWraps_row_tie rfl ⟨rfl, rfl⟩ (by kernel_rfl) rfl
    (fun f fn hf hfn => by
      obtain rfl : f = 4 := Option.some.inj ((show Tryz.prog.funcNamed "sapwood/sapwoodlaw15.FaultWraps" = some 4 by kernel_rfl).symm.trans hf) |>.symm
      obtain rfl : fn = Tryz.f4 := (Option.some.inj (Tryz.func4.symm.trans hfn)).symm
      exact ⟨by kernel_rfl, fun j t ht => by
        rw [Tryz.params4] at ht
        have hm : t ∈ [46, 47, 47] := by simpa using Array.mem_of_getElem? ht
        have hall : ([46, 47, 47].all fun u => !Tryz.prog.wantsStandIn u) = true := by kernel_rfl
        exact (show Tryz.prog.wantsStandIn t = false by simpa using List.all_eq_true.1 hall t hm)⟩)
    (by kernel_rfl)
end Go.Proofs.YtonmancgalencaaGreatDoor
