/-
The law CodecNone of layer 16 returns true; the listed tables of package sha and the listed handle of errors' type are tied to the program's text.
-/
import Derived.Test.YtonmancgalencaaGreatDoorMem
import Derived.WalkKit
import Derived.LaidEql
import Derived.Stop.Asserts
import Derived.RowKitTokens
import Derived.Test.YtonmancgalencaaGreatDoorTrk
import Derived.Stop.Joined
import Derived.Test.YtonmancgalencaaGreatDoorBu
import Derived.Test.YtonmancgalencaaGreatDoorSi
import Derived.Test.YtonmancgalencaaGreatDoorL13
import Derived.Test.YtonmancgalencaaGreatDoorR11
import Derived.Test.YtonmancgalencaaGreatDoorTb
import Derived.LaidHandle
import Derived.LaidSub
import Derived.Test.YtonmancgalencaaGreatDoorQ11
import Derived.Test.YtonmancgalencaaGreatDoorJn
import Derived.Shelf.Slices.ReverseS
import Derived.Lib.OwnBridge
import Derived.Test.YtonmancgalencaaGreatDoorSm
import Derived.Test.YtonmancgalencaaGreatDoorAw
import Derived.Test.YtonmancgalencaaGreatDoorV14
namespace Go.Proofs.YtonmancgalencaaGreatDoor
open Go.RowKit Go.Extern
set_option linter.unusedVariables false
set_option linter.unusedSimpArgs false

@[go_sem] theorem rm_Kind (f : Nat) (h : Value) (w : World) : (Go.method (f + 1) 174 (.agg #[h]) "Kind").run Tryz.prog w = .ok (211, h) w := by kernel_rfl
@[go_sem] theorem rm_Elem (f : Nat) (h : Value) (w : World) : (Go.method (f + 1) 174 (.agg #[h]) "Elem").run Tryz.prog w = .ok (224, .agg #[h]) w := by kernel_rfl
@[go_sem] theorem rm_Implements (f : Nat) (h : Value) (w : World) : (Go.method (f + 1) 174 (.agg #[h]) "Implements").run Tryz.prog w = .ok (225, .agg #[h]) w := by kernel_rfl
@[go_sem] theorem rm_AssignableTo (f : Nat) (h : Value) (w : World) : (Go.method (f + 1) 174 (.agg #[h]) "AssignableTo").run Tryz.prog w = .ok (222, .agg #[h]) w := by kernel_rfl
@[go_sem] theorem rm_Comparable (f : Nat) (h : Value) (w : World) : (Go.method (f + 1) 174 (.agg #[h]) "Comparable").run Tryz.prog w = .ok (223, .agg #[h]) w := by kernel_rfl
@[go_sem] theorem em_Error (f : Nat) (v : Value) (w : World) : (Go.method (f + 1) 48 v "Error").run Tryz.prog w = .ok (215, v) w := by kernel_rfl
@[go_sem] theorem fm_Error (f : Nat) (v : Value) (w : World) : (Go.method (f + 1) 61 v "Error").run Tryz.prog w = .ok (30, v) w := by kernel_rfl
@[go_sem] theorem fm_Unwrap (f : Nat) (v : Value) (w : World) : (Go.method (f + 1) 61 v "Unwrap").run Tryz.prog w = .ok (31, v) w := by kernel_rfl
@[go_sem] theorem ta_as_e (v : Value) (xT : TypeId) (w : World) : (Instr.typeAssert (.iface 48 v) xT 178 true).run Tryz.prog w = .ok (.tuple #[.nilIface, .bool false]) w := run_typeAssert_lacksB Tryz.underlying178 (by kernel_rfl) (by kernel_rfl) v xT w
@[go_sem] theorem ta_as_f (v : Value) (xT : TypeId) (w : World) : (Instr.typeAssert (.iface 61 v) xT 178 true).run Tryz.prog w = .ok (.tuple #[.nilIface, .bool false]) w := run_typeAssert_lacksB Tryz.underlying178 (by kernel_rfl) (by kernel_rfl) v xT w
@[go_sem] theorem ta_as_s (v : Value) (xT : TypeId) (w : World) : (Instr.typeAssert (.iface 139 v) xT 178 true).run Tryz.prog w = .ok (.tuple #[.nilIface, .bool false]) w := run_typeAssert_lacksB Tryz.underlying178 (by kernel_rfl) (by kernel_rfl) v xT w
@[go_sem] theorem ta_un_e (v : Value) (xT : TypeId) (w : World) : (Instr.typeAssert (.iface 48 v) xT 181 true).run Tryz.prog w = .ok (.tuple #[.nilIface, .bool false]) w := run_typeAssert_lacksB Tryz.underlying181 (by kernel_rfl) (by kernel_rfl) v xT w
@[go_sem] theorem ta_un_f (v : Value) (xT : TypeId) (w : World) : (Instr.typeAssert (.iface 61 v) xT 181 true).run Tryz.prog w = .ok (.tuple #[.iface 61 v, .bool true]) w := run_typeAssert_hasB Tryz.underlying181 (by kernel_rfl) v xT w
@[go_sem] theorem ta_un_s (v : Value) (xT : TypeId) (w : World) : (Instr.typeAssert (.iface 139 v) xT 181 true).run Tryz.prog w = .ok (.tuple #[.nilIface, .bool false]) w := run_typeAssert_lacksB Tryz.underlying181 (by kernel_rfl) (by kernel_rfl) v xT w
@[go_sem] theorem ta_us_e (v : Value) (xT : TypeId) (w : World) : (Instr.typeAssert (.iface 48 v) xT 182 true).run Tryz.prog w = .ok (.tuple #[.nilIface, .bool false]) w := run_typeAssert_lacksB Tryz.underlying182 (by kernel_rfl) (by kernel_rfl) v xT w
@[go_sem] theorem ta_us_f (v : Value) (xT : TypeId) (w : World) : (Instr.typeAssert (.iface 61 v) xT 182 true).run Tryz.prog w = .ok (.tuple #[.nilIface, .bool false]) w := run_typeAssert_lacksB Tryz.underlying182 (by kernel_rfl) (by kernel_rfl) v xT w
@[go_sem] theorem ta_us_s (v : Value) (xT : TypeId) (w : World) : (Instr.typeAssert (.iface 139 v) xT 182 true).run Tryz.prog w = .ok (.tuple #[.nilIface, .bool false]) w := run_typeAssert_lacksB Tryz.underlying182 (by kernel_rfl) (by kernel_rfl) v xT w
@[go_sem] theorem ta_is_e (v : Value) (xT : TypeId) (w : World) : (Instr.typeAssert (.iface 48 v) xT 194 true).run Tryz.prog w = .ok (.tuple #[.nilIface, .bool false]) w := run_typeAssert_lacksB Tryz.underlying194 (by kernel_rfl) (by kernel_rfl) v xT w
@[go_sem] theorem ta_is_f (v : Value) (xT : TypeId) (w : World) : (Instr.typeAssert (.iface 61 v) xT 194 true).run Tryz.prog w = .ok (.tuple #[.nilIface, .bool false]) w := run_typeAssert_lacksB Tryz.underlying194 (by kernel_rfl) (by kernel_rfl) v xT w
@[go_sem] theorem ta_is_s (v : Value) (xT : TypeId) (w : World) : (Instr.typeAssert (.iface 139 v) xT 194 true).run Tryz.prog w = .ok (.tuple #[.nilIface, .bool false]) w := run_typeAssert_lacksB Tryz.underlying194 (by kernel_rfl) (by kernel_rfl) v xT w
@[go_sem] theorem ta_ff (v : Value) (xT : TypeId) (w : World) : (Instr.typeAssert (.iface 61 v) xT 61 true).run Tryz.prog w = .ok (.tuple #[v, .bool true]) w := by kernel_rfl
@[go_sem] theorem ta_fe (v : Value) (xT : TypeId) (w : World) : (Instr.typeAssert (.iface 48 v) xT 61 true).run Tryz.prog w = .ok (.tuple #[.pointer none, .bool false]) w := by kernel_rfl
@[go_sem] theorem ta_fs (v : Value) (xT : TypeId) (w : World) : (Instr.typeAssert (.iface 139 v) xT 61 true).run Tryz.prog w = .ok (.tuple #[.pointer none, .bool false]) w := by kernel_rfl
@[go_sem] theorem tyof_e (v : Value) (w : World) : (ReflectliteType.typeOf #[.iface 48 v]).run Tryz.prog w = .ok (.iface 174 (.agg #[.pointer (some ⟨4, 48, none⟩)])) w := by kernel_rfl
@[go_sem] theorem asg_e_e (w : World) : (ReflectliteType.relation "AssignableTo" ReflectliteType.assignableTo #[.agg #[.pointer (some ⟨4, 48, none⟩)], .iface 174 (.agg #[.pointer (some ⟨4, 48, none⟩)])]).run Tryz.prog w = .ok (.bool true) w := by kernel_rfl
@[go_sem] theorem asg_e_f (w : World) : (ReflectliteType.relation "AssignableTo" ReflectliteType.assignableTo #[.agg #[.pointer (some ⟨4, 48, none⟩)], .iface 174 (.agg #[.pointer (some ⟨4, 61, none⟩)])]).run Tryz.prog w = .ok (.bool false) w := by kernel_rfl
@[go_sem] theorem tyof_f (v : Value) (w : World) : (ReflectliteType.typeOf #[.iface 61 v]).run Tryz.prog w = .ok (.iface 174 (.agg #[.pointer (some ⟨4, 61, none⟩)])) w := by kernel_rfl
@[go_sem] theorem asg_f_e (w : World) : (ReflectliteType.relation "AssignableTo" ReflectliteType.assignableTo #[.agg #[.pointer (some ⟨4, 61, none⟩)], .iface 174 (.agg #[.pointer (some ⟨4, 48, none⟩)])]).run Tryz.prog w = .ok (.bool false) w := by kernel_rfl
@[go_sem] theorem asg_f_f (w : World) : (ReflectliteType.relation "AssignableTo" ReflectliteType.assignableTo #[.agg #[.pointer (some ⟨4, 61, none⟩)], .iface 174 (.agg #[.pointer (some ⟨4, 61, none⟩)])]).run Tryz.prog w = .ok (.bool true) w := by kernel_rfl
@[go_sem] theorem tyof_s (v : Value) (w : World) : (ReflectliteType.typeOf #[.iface 139 v]).run Tryz.prog w = .ok (.iface 174 (.agg #[.pointer (some ⟨4, 139, none⟩)])) w := by kernel_rfl
@[go_sem] theorem asg_s_e (w : World) : (ReflectliteType.relation "AssignableTo" ReflectliteType.assignableTo #[.agg #[.pointer (some ⟨4, 139, none⟩)], .iface 174 (.agg #[.pointer (some ⟨4, 48, none⟩)])]).run Tryz.prog w = .ok (.bool false) w := by kernel_rfl
@[go_sem] theorem asg_s_f (w : World) : (ReflectliteType.relation "AssignableTo" ReflectliteType.assignableTo #[.agg #[.pointer (some ⟨4, 139, none⟩)], .iface 174 (.agg #[.pointer (some ⟨4, 61, none⟩)])]).run Tryz.prog w = .ok (.bool false) w := by kernel_rfl
@[go_sem] theorem comparable_e (w : World) : ((ReflectliteType.method fun t => do Rtype.noPackHeld "Comparable" t; pure (.bool (← typeInfo t).comparable)) #[.agg #[.pointer (some ⟨4, 48, none⟩)]]).run Tryz.prog w = .ok (.bool true) w := by kernel_rfl
@[go_sem] theorem kind_pe (w : World) : ((ReflectliteType.abiMethod fun t => (fun a : Nat => Value.int IntKind.u8 (a : Int)) <$> Rtype.kind t) #[.pointer (some ⟨4, 59, none⟩)]).run Tryz.prog w = .ok (.int .u8 22) w := by kernel_rfl
@[go_sem] theorem kind_ppf (w : World) : ((ReflectliteType.abiMethod fun t => (fun a : Nat => Value.int IntKind.u8 (a : Int)) <$> Rtype.kind t) #[.pointer (some ⟨4, 126, none⟩)]).run Tryz.prog w = .ok (.int .u8 22) w := by kernel_rfl
@[go_sem] theorem kind_e (w : World) : ((ReflectliteType.abiMethod fun t => (fun a : Nat => Value.int IntKind.u8 (a : Int)) <$> Rtype.kind t) #[.pointer (some ⟨4, 48, none⟩)]).run Tryz.prog w = .ok (.int .u8 2) w := by kernel_rfl
@[go_sem] theorem kind_f (w : World) : ((ReflectliteType.abiMethod fun t => (fun a : Nat => Value.int IntKind.u8 (a : Int)) <$> Rtype.kind t) #[.pointer (some ⟨4, 61, none⟩)]).run Tryz.prog w = .ok (.int .u8 22) w := by kernel_rfl
@[go_sem] theorem vof_e (n : Int) (w : World) : (ReflectliteValue.unpack (.iface 48 (.int .i64 n))).run Tryz.prog w = .ok (.agg #[.pointer (some ⟨4, 48, none⟩), .pointer (some ⟨w.heap.size, 0, none⟩), .int .u64 130]) (w.alloc (.cells #[.int .i64 n] 48)) := by kernel_rfl
theorem rlm (z : Sem Value) (f : TypeId → Addr → Nat → Nat → Sem Value) (v : Value) :
    ReflectliteValue.method z f #[v] = (do match ← ReflectliteValue.parts v with | none => z | some (t, a, fl) => f t a fl (fl % 32)) := rfl
theorem rls (v x : Value) : ReflectliteValue.set #[v, x] = (do
    let (some (dst, a, fl), some (src, b, _)) := (← ReflectliteValue.parts v, ← ReflectliteValue.parts x)
      | unsupported (.noEntry "extern/(internal/reflectlite.Value).Set.zeroValue")
    if fl / ReflectliteValue.flagAddr % 2 == 0 then unsupported (.noEntry "extern/(internal/reflectlite.Value).Set.unaddressable")
    let val ← loadVar src b
    if ← Rtype.directlyAssignable dst src then storeVar dst a val
    else if ← Rtype.implements dst src then
      if (← Rtype.kind src) == 20 then
        match val with
        | .nilIface => unsupported (.noEntry "extern/reflectlite: a nil value of one interface type handed on as a value of another")
        | _ => storeVar dst a val
      else storeVar dst a (.iface src val)
    else panicString ("reflectlite.Set: value of type " ++ (← Rtype.spelt src) ++ " is not assignable to type " ++ (← Rtype.spelt dst))
    pure (.tuple #[])) := rfl
@[go_sem] theorem vof_pe (t : Addr) (w : World) : (ReflectliteValue.unpack (.iface 59 (.pointer (some t)))).run Tryz.prog w = .ok (.agg #[.pointer (some ⟨4, 59, none⟩), .pointer (some ⟨w.heap.size, 0, none⟩), .int .u64 150]) (w.alloc (.cells #[.pointer (some t)] 59)) := by kernel_rfl
@[go_sem] theorem vty_pe (a : Addr) (w : World) : (ReflectliteValue.methodAny (ReflectliteValue.valueError "reflectlite.Value.Type" 0) (fun t _ _ _ => ReflectliteType.toType t) #[.agg #[.pointer (some ⟨4, 59, none⟩), .pointer (some a), .int .u64 150]]).run Tryz.prog w = .ok (.iface 174 (.agg #[.pointer (some ⟨4, 59, none⟩)])) w := by kernel_rfl
@[go_sem] theorem elem_pe (w : World) : (ReflectliteType.method ReflectliteType.elem #[.agg #[.pointer (some ⟨4, 59, none⟩)]]).run Tryz.prog w = .ok (.iface 174 (.agg #[.pointer (some ⟨4, 48, none⟩)])) w := by kernel_rfl
@[go_sem] theorem impl_e (w : World) : (ReflectliteType.relation "Implements" ReflectliteType.implements_ #[.agg #[.pointer (some ⟨4, 48, none⟩)], .iface 174 (.agg #[.pointer (some ⟨4, 50, none⟩)])]).run Tryz.prog w = .ok (.bool true) w := by kernel_rfl
theorem parts_pe (a : Addr) (w : World) : (ReflectliteValue.parts (.agg #[.pointer (some ⟨4, 59, none⟩), .pointer (some a), .int .u64 150])).run Tryz.prog w = .ok (some (59, a, 150)) w := by kernel_rfl
theorem partsA_e (a : Addr) (w : World) : (ReflectliteValue.parts (.agg #[.pointer (some ⟨4, 48, none⟩), .pointer (some a), .int .u64 386])).run Tryz.prog w = .ok (some (48, a, 386)) w := by kernel_rfl
theorem parts_e (a : Addr) (w : World) : (ReflectliteValue.parts (.agg #[.pointer (some ⟨4, 48, none⟩), .pointer (some a), .int .u64 130])).run Tryz.prog w = .ok (some (48, a, 130)) w := by kernel_rfl
theorem elemOf_pe (w : World) : (Rtype.elem? 59).run Tryz.prog w = .ok (some 48) w := by kernel_rfl
theorem mk_e (p : Addr) (w : World) : (ReflectliteValue.mk 48 p ReflectliteValue.flagAddr).run Tryz.prog w = .ok (.agg #[.pointer (some ⟨4, 48, none⟩), .pointer (some p), .int .u64 386]) w := by kernel_rfl
theorem direct_e (w : World) : (Rtype.directlyAssignable 48 48).run Tryz.prog w = .ok true w := by kernel_rfl
theorem isNil_pe (a p : Addr) (W : World) (ha : W.cell? a = some (.pointer (some p))) : (ReflectliteValue.method (ReflectliteValue.valueError "reflectlite.Value.IsNil" 0) ReflectliteValue.isNil #[.agg #[.pointer (some ⟨4, 59, none⟩), .pointer (some a), .int .u64 150]]).run Tryz.prog W = .ok (.bool false) W := by
  rw [rlm]
  simp only [Sem.run_bind, parts_pe, Result.andThen]
  simp [ReflectliteValue.isNil, loadVar, isAgg, underlying, Tryz.underlying59, ha, Result.andThen]
theorem elemV_pe (a p : Addr) (W : World) (ha : W.cell? a = some (.pointer (some p))) : (ReflectliteValue.method (ReflectliteValue.valueError "reflectlite.Value.Elem" 0) ReflectliteValue.elem #[.agg #[.pointer (some ⟨4, 59, none⟩), .pointer (some a), .int .u64 150]]).run Tryz.prog W = .ok (.agg #[.pointer (some ⟨4, 48, none⟩), .pointer (some p), .int .u64 386]) W := by
  rw [rlm]
  simp only [Sem.run_bind, parts_pe, Result.andThen]
  simp [ReflectliteValue.elem, loadVar, isAgg, underlying, Tryz.underlying59, ha, Result.andThen, elemOf_pe, mk_e]
theorem set_e (ta b : Addr) (n : Int) (old : Value) (W : World) (hb : W.cell? b = some (.int .i64 n)) (ht : W.cell? ta = some old) (hf : W.frozen? ta = false) : (ReflectliteValue.set #[.agg #[.pointer (some ⟨4, 48, none⟩), .pointer (some ta), .int .u64 386], .agg #[.pointer (some ⟨4, 48, none⟩), .pointer (some b), .int .u64 130]]).run Tryz.prog W = .ok (.tuple #[]) (W.setCell ta (.int .i64 n)) := by
  rw [rls]
  simp only [Sem.run_bind, partsA_e, parts_e, Result.andThen]
  simp [ReflectliteValue.flagAddr, loadVar, isAgg, underlying, Tryz.underlying48, hb, Result.andThen, direct_e, storeVar, Value.cells, storeCells, Addr.add]
  rw [run_store Tryz.prog W ta _ _ (by rfl)]
  simp [ht, hf]
@[go_sem] theorem vof_ppf (t : Addr) (w : World) : (ReflectliteValue.unpack (.iface 126 (.pointer (some t)))).run Tryz.prog w = .ok (.agg #[.pointer (some ⟨4, 126, none⟩), .pointer (some ⟨w.heap.size, 0, none⟩), .int .u64 150]) (w.alloc (.cells #[.pointer (some t)] 126)) := by kernel_rfl
@[go_sem] theorem vof_f (t : Option Addr) (w : World) : (ReflectliteValue.unpack (.iface 61 (.pointer t))).run Tryz.prog w = .ok (.agg #[.pointer (some ⟨4, 61, none⟩), .pointer (some ⟨w.heap.size, 0, none⟩), .int .u64 150]) (w.alloc (.cells #[.pointer t] 61)) := by kernel_rfl
@[go_sem] theorem vty_ppf (a : Addr) (w : World) : (ReflectliteValue.methodAny (ReflectliteValue.valueError "reflectlite.Value.Type" 0) (fun t _ _ _ => ReflectliteType.toType t) #[.agg #[.pointer (some ⟨4, 126, none⟩), .pointer (some a), .int .u64 150]]).run Tryz.prog w = .ok (.iface 174 (.agg #[.pointer (some ⟨4, 126, none⟩)])) w := by kernel_rfl
@[go_sem] theorem elem_ppf (w : World) : (ReflectliteType.method ReflectliteType.elem #[.agg #[.pointer (some ⟨4, 126, none⟩)]]).run Tryz.prog w = .ok (.iface 174 (.agg #[.pointer (some ⟨4, 61, none⟩)])) w := by kernel_rfl
@[go_sem] theorem impl_f (w : World) : (ReflectliteType.relation "Implements" ReflectliteType.implements_ #[.agg #[.pointer (some ⟨4, 61, none⟩)], .iface 174 (.agg #[.pointer (some ⟨4, 50, none⟩)])]).run Tryz.prog w = .ok (.bool true) w := by kernel_rfl
end Go.Proofs.YtonmancgalencaaGreatDoor
namespace Go.Proofs.YtonmancgalencaaGreatDoor
open Go.RowKit Go.Extern
set_option linter.unusedVariables false
set_option linter.unusedSimpArgs false

/-- notes ahead of an error, one below the other -/
def Chn (w : World) : List ByteArray → Value → Value → Prop
  | [], b, v => v = b
  | s :: l, b, v => ∃ g u, v = .iface 61 (.pointer (some ⟨g, 0, none⟩)) ∧ objAt w g = some (.cells #[.string s, u] 64) ∧ Chn w l b u
theorem Chn.later {w w' : World} (hb : Below w.heap.size w w') : ∀ {l : List ByteArray} {b v : Value}, Chn w l b v → Chn w' l b v
  | [], _, _, h => h
  | _ :: l, _, _, ⟨g, u, e, h, hc⟩ => ⟨g, u, e, keep_below hb h, hc.later hb⟩
/-- an error that bears no note -/
def Bare (b : Value) : Prop := ∀ x, b ≠ .iface 61 x
theorem chn_one {w : World} {b b' v : Value} (hb : Bare b) (hb' : Bare b') : ∀ {l l' : List ByteArray}, Chn w l b v → Chn w l' b' v → l.length = l'.length
  | [], [], _, _ => rfl
  | [], _ :: _, h, ⟨g, u, e, _⟩ => absurd (h.symm.trans e) (hb _)
  | _ :: _, [], ⟨g, u, e, _⟩, h => absurd (h.symm.trans e) (hb' _)
  | _ :: l, _ :: l', ⟨g, u, e, h, hc⟩, ⟨g', u', e', h', hc'⟩ => by
    rw [e] at e'
    cases e'
    rw [h] at h'
    injection h' with h'
    injection h' with h'
    obtain ⟨_, rfl⟩ : _ ∧ u = u' := by simpa using h'
    rw [List.length_cons, List.length_cons, chn_one hb hb' hc hc']
/-- how many notes there are -/
noncomputable def deep (w : World) (v : Value) : Nat := by
  classical exact if h : ∃ l b, Bare b ∧ Chn w l b v then h.choose.length else 0
theorem deep_eq {w : World} {l : List ByteArray} {b v : Value} (hb : Bare b) (h : Chn w l b v) : deep w v = l.length := by
  have hx : ∃ l b, Bare b ∧ Chn w l b v := ⟨l, b, hb, h⟩
  unfold deep
  rw [dif_pos hx]
  obtain ⟨b', h1, h2⟩ := hx.choose_spec
  exact chn_one h1 hb h2 h
theorem bare_errno (n : Value) : Bare (.iface 48 n) := fun x h => by injection h with h; exact absurd h (by decide)
/-- the type that every error has -/
def EtAt (w : World) : Prop := ∃ t fr, objAt w 0 = some (.cells #[.iface 174 (.agg #[.pointer (some ⟨4, 50, none⟩)])] t fr)
theorem EtAt.later {w w' : World} (h : EtAt w) (hb : Below w.heap.size w w') : EtAt w' := by
  obtain ⟨t, fr, h⟩ := h
  exact ⟨t, fr, keep_below hb h⟩
set_option maxRecDepth 100000 in
set_option maxHeartbeats 4000000 in
theorem funwrap_any (g : Nat) (s : ByteArray) (u : Value) (w : World) (h : objAt w g = some (.cells #[.string s, u] 64)) :
    Calls Tryz.prog 31 #[.pointer (some ⟨g, 0, none⟩)] w fun e w' => e = .returned u ∧ w' = w := by
  go_enter Tryz.func31, Tryz.ntmps31
  go_wp2
  go_ret
  exact ⟨rfl, rfl⟩
@[go_sem] theorem rex_0 (args : Array Value) (w : World) : (callFunc 75 args).run Tryz.prog w = (((fun args => ReflectliteValue.unpack (args.getD 0 (.tuple #[]))) args).run Tryz.prog w).andThen fun v w' => .ok (.value v) w' := run_callFunc_extern (e := (fun args => ReflectliteValue.unpack (args.getD 0 (.tuple #[])))) Tryz.func75 (by kernel_rfl) (by kernel_rfl) (by kernel_rfl) (by kernel_rfl) args w
@[go_sem] theorem rex_1 (args : Array Value) (w : World) : (callFunc 76 args).run Tryz.prog w = (((ReflectliteValue.methodAny (ReflectliteValue.valueError "reflectlite.Value.Type" 0) (fun t _ _ _ => ReflectliteType.toType t)) args).run Tryz.prog w).andThen fun v w' => .ok (.value v) w' := run_callFunc_extern (e := (ReflectliteValue.methodAny (ReflectliteValue.valueError "reflectlite.Value.Type" 0) (fun t _ _ _ => ReflectliteType.toType t))) Tryz.func76 (by kernel_rfl) (by kernel_rfl) (by kernel_rfl) (by kernel_rfl) args w
@[go_sem] theorem rex_2 (args : Array Value) (w : World) : (callFunc 77 args).run Tryz.prog w = (((ReflectliteValue.method (ReflectliteValue.valueError "reflectlite.Value.IsNil" 0) ReflectliteValue.isNil) args).run Tryz.prog w).andThen fun v w' => .ok (.value v) w' := run_callFunc_extern (e := (ReflectliteValue.method (ReflectliteValue.valueError "reflectlite.Value.IsNil" 0) ReflectliteValue.isNil)) Tryz.func77 (by kernel_rfl) (by kernel_rfl) (by kernel_rfl) (by kernel_rfl) args w
@[go_sem] theorem rex_3 (args : Array Value) (w : World) : (callFunc 211 args).run Tryz.prog w = (((ReflectliteType.abiMethod fun t => do pure (.int .u8 (← Rtype.kind t))) args).run Tryz.prog w).andThen fun v w' => .ok (.value v) w' := run_callFunc_extern (e := (ReflectliteType.abiMethod fun t => do pure (.int .u8 (← Rtype.kind t)))) Tryz.func211 (by kernel_rfl) (by kernel_rfl) (by kernel_rfl) (by kernel_rfl) args w
@[go_sem] theorem rex_4 (args : Array Value) (w : World) : (callFunc 224 args).run Tryz.prog w = (((ReflectliteType.method ReflectliteType.elem) args).run Tryz.prog w).andThen fun v w' => .ok (.value v) w' := run_callFunc_extern (e := (ReflectliteType.method ReflectliteType.elem)) Tryz.func224 (by kernel_rfl) (by kernel_rfl) (by kernel_rfl) (by kernel_rfl) args w
@[go_sem] theorem rex_5 (args : Array Value) (w : World) : (callFunc 225 args).run Tryz.prog w = (((ReflectliteType.relation "Implements" ReflectliteType.implements_) args).run Tryz.prog w).andThen fun v w' => .ok (.value v) w' := run_callFunc_extern (e := (ReflectliteType.relation "Implements" ReflectliteType.implements_)) Tryz.func225 (by kernel_rfl) (by kernel_rfl) (by kernel_rfl) (by kernel_rfl) args w
@[go_sem] theorem rex_6 (args : Array Value) (w : World) : (callFunc 98 args).run Tryz.prog w = ((ReflectliteType.typeOf args).run Tryz.prog w).andThen fun v w' => .ok (.value v) w' := run_callFunc_extern (e := ReflectliteType.typeOf) Tryz.func98 (by kernel_rfl) (by kernel_rfl) (by kernel_rfl) (by kernel_rfl) args w
@[go_sem] theorem rex_7 (args : Array Value) (w : World) : (callFunc 222 args).run Tryz.prog w = (((ReflectliteType.relation "AssignableTo" ReflectliteType.assignableTo) args).run Tryz.prog w).andThen fun v w' => .ok (.value v) w' := run_callFunc_extern (e := (ReflectliteType.relation "AssignableTo" ReflectliteType.assignableTo)) Tryz.func222 (by kernel_rfl) (by kernel_rfl) (by kernel_rfl) (by kernel_rfl) args w
@[go_sem] theorem rex_8 (args : Array Value) (w : World) : (callFunc 100 args).run Tryz.prog w = (((ReflectliteValue.method (ReflectliteValue.valueError "reflectlite.Value.Elem" 0) ReflectliteValue.elem) args).run Tryz.prog w).andThen fun v w' => .ok (.value v) w' := run_callFunc_extern (e := (ReflectliteValue.method (ReflectliteValue.valueError "reflectlite.Value.Elem" 0) ReflectliteValue.elem)) Tryz.func100 (by kernel_rfl) (by kernel_rfl) (by kernel_rfl) (by kernel_rfl) args w
@[go_sem] theorem rex_9 (args : Array Value) (w : World) : (callFunc 101 args).run Tryz.prog w = ((ReflectliteValue.set args).run Tryz.prog w).andThen fun v w' => .ok (.value v) w' := run_callFunc_extern (e := ReflectliteValue.set) Tryz.func101 (by kernel_rfl) (by kernel_rfl) (by kernel_rfl) (by kernel_rfl) args w
@[go_sem] theorem rex_10 (args : Array Value) (w : World) : (callFunc 223 args).run Tryz.prog w = (((ReflectliteType.method fun t => do Rtype.noPackHeld "Comparable" t; pure (.bool (← typeInfo t).comparable)) args).run Tryz.prog w).andThen fun v w' => .ok (.value v) w' := run_callFunc_extern (e := (ReflectliteType.method fun t => do Rtype.noPackHeld "Comparable" t; pure (.bool (← typeInfo t).comparable))) Tryz.func223 (by kernel_rfl) (by kernel_rfl) (by kernel_rfl) (by kernel_rfl) args w
set_option maxRecDepth 100000 in
set_option maxHeartbeats 4000000 in
theorem as_ee (x : Int) (n0 : Int) (tb a0 : Nat) (l : List ByteArray) (v : Value) (w : World) (hc : Chn w l (.iface 48 (.int .i64 x)) v) (ha : objAt w a0 = some (.cells #[.pointer (some ⟨tb, 0, none⟩)] 59)) (ht : objAt w tb = some (.cells #[.int .i64 n0] 48)) :
    Calls Tryz.prog 78 #[v, .iface 59 (.pointer (some ⟨tb, 0, none⟩)), .agg #[.pointer (some ⟨4, 59, none⟩), .pointer (some ⟨a0, 0, none⟩), .int .u64 150], .iface 174 (.agg #[.pointer (some ⟨4, 48, none⟩)])] w fun e w' => e = .returned (.bool true) ∧ Below (w.setRow tb #[.int .i64 x]).heap.size (w.setRow tb #[.int .i64 x]) w' := by
  have hbr : Bare (.iface 48 (.int .i64 x)) := bare_errno _
  go_enter Tryz.func78, Tryz.ntmps78
  go_wp2_with fail
  have hc1 := hc.later (Grew.alloc (Grew.refl w) (.cells #[.pointer (some ⟨4, 59, none⟩), .pointer (some ⟨a0, 0, none⟩), .int .u64 150] 130))
  have fb : objAt (w.alloc (.cells #[.pointer (some ⟨4, 59, none⟩), .pointer (some ⟨a0, 0, none⟩), .int .u64 150] 130)) w.heap.size = some (.cells #[.pointer (some ⟨4, 59, none⟩), .pointer (some ⟨a0, 0, none⟩), .int .u64 150] 130) := objAt_alloc_at _ _ _ rfl
  have ha1 := keep_alloc (.cells #[.pointer (some ⟨4, 59, none⟩), .pointer (some ⟨a0, 0, none⟩), .int .u64 150] 130) ha
  have ht1 := keep_alloc (.cells #[.pointer (some ⟨4, 59, none⟩), .pointer (some ⟨a0, 0, none⟩), .int .u64 150] 130) ht
  have lta := lt_of_objAt ht
  have HE : Hid (∀ w1, w1 = w.alloc (.cells #[.pointer (some ⟨4, 59, none⟩), .pointer (some ⟨a0, 0, none⟩), .int .u64 150] 130) → w1 = w.alloc (.cells #[.pointer (some ⟨4, 59, none⟩), .pointer (some ⟨a0, 0, none⟩), .int .u64 150] 130)) := fun _ h => h
  obtain ⟨w1, hw1⟩ : ∃ w1, w1 = w.alloc (.cells #[.pointer (some ⟨4, 59, none⟩), .pointer (some ⟨a0, 0, none⟩), .int .u64 150] 130) := ⟨_, rfl⟩
  rw [← hw1] at hc1 fb ha1 ht1 ⊢
  clear hc ha ht
  have lfb := lt_of_objAt fb
  have hHW : Hid (w1 = w.alloc (.cells #[.pointer (some ⟨4, 59, none⟩), .pointer (some ⟨a0, 0, none⟩), .int .u64 150] 130)) := hw1
  clear hw1 HE
  go_loopw [0, 9, 10, 11, 12, 14, 15] (fun v _ _ _ _ _ _ wr => wr = w1 ∧ ∃ l v0, v0 = v ∧ Chn w1 l (.iface 48 (.int .i64 x)) v0) (fun v _ _ _ _ _ _ _ => deep w1 v)
  case atStart => exact ⟨rfl, l, _, rfl, hc1⟩
  case round =>
    obtain ⟨rfl, l, v0, rfl, hc⟩ := hrel
    cases l with
    | nil =>
      obtain rfl : v0 = _ := hc
      have el := elemV_pe ⟨a0, 0, none⟩ ⟨tb, 0, none⟩ wr (by rw [cell_obj, ha1]; exact cellOf_cells _ _ _ _)
      have st := set_e ⟨tb, 0, none⟩ ⟨wr.heap.size, 0, none⟩ x (.int .i64 n0) (wr.alloc (.cells #[.int .i64 x] 48)) (by rw [cell_obj, objAt_alloc_at _ _ _ rfl]; exact cellOf_cells _ _ _ _) (by rw [cell_obj, keep_alloc _ ht1]; exact cellOf_cells _ _ _ _) (by rw [frozen_obj, keep_alloc _ ht1]; exact frozenOf_cells _ _ _)
      rw [setCell_eq_setRow _ tb 0 _ _ _ _ (keep_alloc _ ht1)] at st
      go_wp2
      go_ret
      exact ⟨rfl, by rw [setRow_alloc_past _ _ _ _ (lt_of_objAt ht1), hHW.out, setRow_alloc_past _ _ _ _ lta]; exact Grew.alloc (Grew.alloc (Grew.refl _) _) _⟩
    | cons s l =>
      obtain ⟨g, u, rfl, hg, hcu⟩ := hc
      have hd : deep wr u < deep wr (.iface 61 (.pointer (some ⟨g, 0, none⟩))) := by
        rw [deep_eq hbr hcu, deep_eq hbr (show Chn wr (s :: l) _ _ from ⟨g, u, rfl, hg, hcu⟩), List.length_cons]
        omega
      obtain ⟨tu, y, rfl⟩ : ∃ tu y, u = .iface tu y := by
        cases l with
        | nil => exact ⟨_, _, hcu⟩
        | cons s' l => obtain ⟨g', u', e, _⟩ := hcu; exact ⟨_, _, e⟩
      go_wp2_with (go_at_call 31; refine (funwrap_any g s _ _ hg).mono ?_; rintro e w' ⟨rfl, rfl⟩)
      go_roundw
      case rel => first | exact ⟨rfl, l, _, rfl, hcu⟩ | exact ⟨trivial, l, _, rfl, hcu⟩ | ((repeat' apply Exists.intro) <;> first | exact ⟨⟨trivial, l, _, rfl, hcu⟩, rfl⟩ | exact ⟨⟨rfl, l, _, rfl, hcu⟩, rfl⟩ | exact undef)
      case measure => exact hd
end Go.Proofs.YtonmancgalencaaGreatDoor
namespace Go.Proofs.YtonmancgalencaaGreatDoor
open Go.RowKit Go.Extern
set_option linter.unusedVariables false
set_option linter.unusedSimpArgs false

set_option maxRecDepth 100000 in
set_option maxHeartbeats 4000000 in
theorem As_ee (x n0 : Int) (l : List ByteArray) (v : Value) (tb : Nat) (w : World) (hE : EtAt w) (hc : Chn w l (.iface 48 (.int .i64 x)) v) (ht : objAt w tb = some (.cells #[.int .i64 n0] 48)) :
    Calls Tryz.prog 28 #[v, .iface 59 (.pointer (some ⟨tb, 0, none⟩))] w fun e w' => e = .returned (.bool true) ∧ Below (w.setRow tb #[.int .i64 x]).heap.size (w.setRow tb #[.int .i64 x]) w' := by
  have HC : Hid (∀ (a0 : Nat) (w1 : World), Below w.heap.size w w1 → objAt w1 a0 = some (.cells #[.pointer (some ⟨tb, 0, none⟩)] 59) → objAt w1 tb = some (.cells #[.int .i64 n0] 48) → Calls Tryz.prog 78 #[v, .iface 59 (.pointer (some ⟨tb, 0, none⟩)), .agg #[.pointer (some ⟨4, 59, none⟩), .pointer (some ⟨a0, 0, none⟩), .int .u64 150], .iface 174 (.agg #[.pointer (some ⟨4, 48, none⟩)])] w1 fun e w' => e = .returned (.bool true) ∧ Below (w1.setRow tb #[.int .i64 x]).heap.size (w1.setRow tb #[.int .i64 x]) w') := fun a0 w1 hb ha ht => as_ee x n0 tb a0 l v w1 (hc.later hb) ha ht
  obtain ⟨tE, fE, hE1⟩ := hE
  have hE2 := keep_alloc (.cells #[.pointer (some ⟨4, 59, none⟩), .pointer (some ⟨w.heap.size, 0, none⟩), .int .u64 150] 130) (keep_alloc (.cells #[.pointer (some ⟨tb, 0, none⟩)] 59) hE1)
  have ht2 := keep_alloc (.cells #[.pointer (some ⟨4, 59, none⟩), .pointer (some ⟨w.heap.size, 0, none⟩), .int .u64 150] 130) (keep_alloc (.cells #[.pointer (some ⟨tb, 0, none⟩)] 59) ht)
  have ha2 : objAt ((w.alloc (.cells #[.pointer (some ⟨tb, 0, none⟩)] 59)).alloc (.cells #[.pointer (some ⟨4, 59, none⟩), .pointer (some ⟨w.heap.size, 0, none⟩), .int .u64 150] 130)) w.heap.size = some (.cells #[.pointer (some ⟨tb, 0, none⟩)] 59) := keep_alloc _ (objAt_alloc_at _ _ _ rfl)
  have fb2 : objAt ((w.alloc (.cells #[.pointer (some ⟨tb, 0, none⟩)] 59)).alloc (.cells #[.pointer (some ⟨4, 59, none⟩), .pointer (some ⟨w.heap.size, 0, none⟩), .int .u64 150] 130)) (w.heap.size + 1) = some (.cells #[.pointer (some ⟨4, 59, none⟩), .pointer (some ⟨w.heap.size, 0, none⟩), .int .u64 150] 130) := objAt_alloc_at _ _ _ (by simp)
  have lta := lt_of_objAt ht
  have lE := lt_of_objAt hE1
  have hb2 : Below w.heap.size w ((w.alloc (.cells #[.pointer (some ⟨tb, 0, none⟩)] 59)).alloc (.cells #[.pointer (some ⟨4, 59, none⟩), .pointer (some ⟨w.heap.size, 0, none⟩), .int .u64 150] 130)) := Grew.alloc (Grew.alloc (Grew.refl w) _) _
  have n8 := isNil_pe ⟨w.heap.size, 0, none⟩ ⟨tb, 0, none⟩ ((w.alloc (.cells #[.pointer (some ⟨tb, 0, none⟩)] 59)).alloc (.cells #[.pointer (some ⟨4, 59, none⟩), .pointer (some ⟨w.heap.size, 0, none⟩), .int .u64 150] 130)) (by rw [cell_obj, ha2]; exact cellOf_cells _ _ _ _)
  clear hE1
  obtain ⟨tv, yv, rfl⟩ : ∃ t y, v = .iface t y := by
    cases l with
    | nil => exact ⟨_, _, hc⟩
    | cons s' l => obtain ⟨g', u', e, _⟩ := hc; exact ⟨_, _, e⟩
  clear hc
  go_enter Tryz.func28, Tryz.ntmps28
  go_wp2_with fail
  refine (HC.out _ _ hb2 ha2 ht2).mono ?_
  rintro e w' ⟨rfl, hb⟩
  go_wp2
  go_ret
  exact ⟨rfl, by rw [setRow_alloc_past _ _ _ _ (by simp; omega), setRow_alloc_past _ _ _ _ lta] at hb; exact Grew.trans (Grew.alloc (Grew.alloc (Grew.refl _) _) _) hb⟩
end Go.Proofs.YtonmancgalencaaGreatDoor
namespace Go.Proofs.YtonmancgalencaaGreatDoor
open Go.RowKit Go.Extern
set_option linter.unusedVariables false
set_option linter.unusedSimpArgs false

@[go_sem] theorem comparable_e2 (w : World) : ((ReflectliteType.method fun t => do Rtype.noPackHeld "Comparable" t; (fun a => Value.bool a.comparable) <$> typeInfo t) #[.agg #[.pointer (some ⟨4, 48, none⟩)]]).run Tryz.prog w = .ok (.bool true) w := by kernel_rfl
@[go_sem] theorem eql_pe (a b : Value) (w : World) : (binOp .eql 50 (.iface 61 a) (.iface 48 b)).run Tryz.prog w = .ok (.bool false) w := run_eql_iface_types _ _ _ _ Tryz.underlying50 (by decide) w
@[go_sem] theorem eql_se (a b : Value) (w : World) : (binOp .eql 50 (.iface 139 a) (.iface 48 b)).run Tryz.prog w = .ok (.bool false) w := run_eql_iface_types _ _ _ _ Tryz.underlying50 (by decide) w
@[go_sem] theorem eql_ee (a b : Int) (w : World) : (binOp .eql 50 (.iface 48 (.int .i64 a)) (.iface 48 (.int .i64 b))).run Tryz.prog w = .ok (.bool (decide (a = b))) w := by
  have e1 : Tryz.prog.underlying 48 = _ := Tryz.underlying48
  have e2 : Tryz.prog.underlying 50 = _ := Tryz.underlying50
  obtain ⟨i, hi, hc⟩ : ∃ i, Tryz.prog.info? 48 = some i ∧ i.comparable = true := ⟨(Tryz.prog.info? 48).get (by kernel_rfl), by kernel_rfl, by kernel_rfl⟩
  have h : ∀ d : Nat, (Op.equalIn (d + 2) 50 (.iface 48 (.int .i64 a)) (.iface 48 (.int .i64 b))).run Tryz.prog w = .ok (decide (a = b)) w := fun d => by
    simp [Op.equalIn, run_underlying e1, run_underlying e2, typeInfo, hi, hc]
    by_cases hab : a = b <;> simp [hab]
  simp only [binOp]
  simp [Op.equal, Op.maxDepth, h 9998]
set_option maxRecDepth 100000 in
set_option maxHeartbeats 4000000 in
theorem is_e (x : Int) (e0 : Int) (l : List ByteArray) (v : Value) (w : World) (hc1 : Chn w l (.iface 48 (.int .i64 x)) v) :
    Calls Tryz.prog 99 #[v, .iface 48 (.int .i64 e0), .bool true] w fun e w' => e = .returned (.bool (decide (x = e0))) ∧ w' = w := by
  have hbr : Bare (.iface 48 (.int .i64 x)) := bare_errno _
  go_enter Tryz.func99, Tryz.ntmps99
  go_wp2_with fail
  go_loopw [0, 7, 8, 9, 10, 12, 13] (fun v _ _ _ _ _ _ wr => wr = w ∧ ∃ l v0, v0 = v ∧ Chn w l (.iface 48 (.int .i64 x)) v0) (fun v _ _ _ _ _ _ _ => deep w v)
  case atStart => exact ⟨rfl, l, _, rfl, hc1⟩
  case round =>
    obtain ⟨rfl, l, v0, rfl, hc⟩ := hrel
    cases l with
    | nil =>
      obtain rfl : v0 = _ := hc
      by_cases hx : x = e0
      · subst hx
        go_wp2
        go_ret
        exact ⟨by simp, rfl⟩
      · go_wp2
        go_ret
        exact ⟨by simp [hx], rfl⟩
    | cons s l =>
      obtain ⟨g, u, rfl, hg, hcu⟩ := hc
      have hd : deep wr u < deep wr (.iface 61 (.pointer (some ⟨g, 0, none⟩))) := by
        rw [deep_eq hbr hcu, deep_eq hbr (show Chn wr (s :: l) _ _ from ⟨g, u, rfl, hg, hcu⟩), List.length_cons]
        omega
      obtain ⟨tu, y, rfl⟩ : ∃ tu y, u = .iface tu y := by
        cases l with
        | nil => exact ⟨_, _, hcu⟩
        | cons s' l => obtain ⟨g', u', e, _⟩ := hcu; exact ⟨_, _, e⟩
      go_wp2_with (go_at_call 31; refine (funwrap_any g s _ _ hg).mono ?_; rintro e w' ⟨rfl, rfl⟩)
      go_roundw
      case rel => first | exact ⟨rfl, l, _, rfl, hcu⟩ | exact ⟨trivial, l, _, rfl, hcu⟩ | ((repeat' apply Exists.intro) <;> first | exact ⟨⟨trivial, l, _, rfl, hcu⟩, rfl⟩ | exact ⟨⟨rfl, l, _, rfl, hcu⟩, rfl⟩ | exact undef)
      case measure => exact hd
set_option maxRecDepth 100000 in
set_option maxHeartbeats 4000000 in
theorem Is_e (x : Int) (e0 : Int) (l : List ByteArray) (v : Value) (w : World) (hc : Chn w l (.iface 48 (.int .i64 x)) v) :
    Calls Tryz.prog 25 #[v, .int .i64 e0] w fun e w' => e = .returned (.bool (decide (x = e0))) ∧ w' = w := by
  have H := is_e x e0 l v w hc
  obtain ⟨tv, yv, rfl⟩ : ∃ t y, v = .iface t y := by
    cases l with
    | nil => exact ⟨_, _, hc⟩
    | cons s' l => obtain ⟨g', u', e, _⟩ := hc; exact ⟨_, _, e⟩
  clear hc
  have H2 : Calls Tryz.prog 74 #[.iface tv yv, .iface 48 (.int .i64 e0)] w fun e w' => e = .returned (.bool (decide (x = e0))) ∧ w' = w := by
    go_enter Tryz.func74, Tryz.ntmps74
    go_wp2_with (go_at_call 99; refine H.mono ?_; rintro e w' ⟨rfl, rfl⟩)
    go_ret
    exact ⟨rfl, rfl⟩
  clear H
  go_enter Tryz.func25, Tryz.ntmps25
  go_wp2_with (go_at_call 74; refine H2.mono ?_; rintro e w' ⟨rfl, rfl⟩)
  go_ret
  exact ⟨rfl, rfl⟩
theorem wrap_any (s : ByteArray) (t : TypeId) (y : Value) (w : World) : Calls Tryz.prog 22 #[.string s, .iface t y] w fun e w' => e = .returned (.iface 61 (.pointer (some ⟨w.heap.size, 0, none⟩))) ∧ w' = w.alloc (.cells #[.string s, .iface t y] 64) := by
  go_enter Tryz.func22, Tryz.ntmps22
  go_wp2
  go_ret
  exact ⟨rfl, rfl⟩
set_option maxRecDepth 100000 in
set_option maxHeartbeats 4000000 in
theorem Code_e (x : Int) (l : List ByteArray) (v : Value) (w : World) (hE : EtAt w) (hc : Chn w l (.iface 48 (.int .i64 x)) v) :
    Calls Tryz.prog 24 #[v] w fun e w' => e = .returned (.int .i64 (x)) ∧ Below w.heap.size w w' := by
  have C := As_ee x 0 l v _ _ (hE.later (Grew.alloc (Grew.refl w) _)) (hc.later (Grew.alloc (Grew.refl w) _)) (objAt_alloc_at _ _ _ rfl)
  have hb : Below w.heap.size w (w.alloc (.cells #[.int .i64 0] 48)) := Grew.alloc (Grew.refl w) _
  go_enter Tryz.func24, Tryz.ntmps24
  go_wp2_with fail
  refine C.mono ?_
  rintro e w' ⟨rfl, hb1⟩
  rw [setRow_alloc_at _ _ _ _ _ rfl] at hb1
  have ft := keep_below hb1 (objAt_alloc_at w (.cells #[.int .i64 x] 48) _ rfl)
  have lft := lt_of_objAt ft
  go_wp2
  go_ret
  exact ⟨rfl, Grew.trans (Grew.alloc (Grew.refl w) _) hb1⟩
end Go.Proofs.YtonmancgalencaaGreatDoor
namespace Go.Proofs.YtonmancgalencaaGreatDoor
open Go.RowKit Go.Extern
set_option linter.unusedVariables false
set_option linter.unusedSimpArgs false

def namesA : Array Value := #[.string ⟨#[]⟩, .string ⟨#[116, 114, 117, 110, 99, 97, 116, 101, 100]⟩, .string ⟨#[116, 114, 97, 105, 108, 105, 110, 103]⟩, .string ⟨#[118, 101, 114, 115, 105, 111, 110]⟩, .string ⟨#[115, 105, 122, 101]⟩, .string ⟨#[108, 101, 97, 102]⟩, .string ⟨#[112, 97, 116, 104]⟩, .string ⟨#[115, 116, 97, 103, 101]⟩, .string ⟨#[109, 97, 99]⟩, .string ⟨#[122, 101, 114, 111]⟩, .string ⟨#[117, 110, 107, 110, 111, 119, 110]⟩, .string ⟨#[117, 115, 101, 100]⟩, .string ⟨#[101, 99, 104, 111]⟩, .string ⟨#[115, 116, 97, 116, 101]⟩, .string ⟨#[107, 105, 110, 100]⟩, .string ⟨#[110, 97, 109, 101]⟩, .string ⟨#[114, 97, 110, 103, 101]⟩, .string ⟨#[102, 111, 114, 109]⟩, .string ⟨#[109, 97, 110, 121]⟩, .string ⟨#[110, 111, 110, 101]⟩, .string ⟨#[110, 105, 108]⟩, .string ⟨#[100, 114, 97, 119]⟩, .string ⟨#[108, 111, 110, 103]⟩]
/-- an error number's word -/
def nameB (k : Nat) : ByteArray := match namesA[k]? with | some (.string s) => s | _ => ⟨#[]⟩
def otherB : ByteArray := ⟨#[111, 116, 104, 101, 114]⟩
def nameE (e : Int) : ByteArray := if 1 ≤ e ∧ e < 23 then nameB e.toNat else otherB
theorem nameE_in (k : Nat) (h1 : 1 ≤ k) (h : k < 23) : nameE (k : Int) = nameB k := by unfold nameE; rw [if_pos ⟨by omega, by omega⟩]; rfl
theorem nameE_out (e : Int) (h : e < 1 ∨ 23 ≤ e) : nameE e = otherB := if_neg (by omega)
theorem nameE_size (e : Int) : (nameE e).size ≤ 9 := by
  by_cases h : 1 ≤ e ∧ e < 23
  · obtain ⟨k, rfl⟩ := Int.eq_ofNat_of_zero_le (show 0 ≤ e by omega)
    rw [nameE_in k (by omega) (by omega)]
    have hk : k < 23 := by omega
    obtain rfl | rfl | rfl | rfl | rfl | rfl | rfl | rfl | rfl | rfl | rfl | rfl | rfl | rfl | rfl | rfl | rfl | rfl | rfl | rfl | rfl | rfl | rfl := (by omega : k = 0 ∨ k = 1 ∨ k = 2 ∨ k = 3 ∨ k = 4 ∨ k = 5 ∨ k = 6 ∨ k = 7 ∨ k = 8 ∨ k = 9 ∨ k = 10 ∨ k = 11 ∨ k = 12 ∨ k = 13 ∨ k = 14 ∨ k = 15 ∨ k = 16 ∨ k = 17 ∨ k = 18 ∨ k = 19 ∨ k = 20 ∨ k = 21 ∨ k = 22) <;> decide
  · rw [nameE_out e (by omega)]; decide
def sepB : ByteArray := ⟨#[58, 32]⟩
/-- notes, one behind the other -/
def catN (acc : ByteArray) : List ByteArray → ByteArray
  | [] => acc
  | s :: l => catN (acc ++ s ++ sepB) l
set_option maxRecDepth 100000 in
set_option maxHeartbeats 4000000 in
theorem errno_text (e : Int) (w : World) : Calls Tryz.prog 215 #[.int .i64 e] w fun e' w' => e' = .returned (.string (nameE e)) ∧ Below w.heap.size w w' := by
  have hb : Below w.heap.size w (w.alloc (.cells namesA 9)) := Grew.alloc (Grew.refl w) _
  by_cases h : 1 ≤ e ∧ e < 23
  · obtain rfl | rfl | rfl | rfl | rfl | rfl | rfl | rfl | rfl | rfl | rfl | rfl | rfl | rfl | rfl | rfl | rfl | rfl | rfl | rfl | rfl | rfl := (by omega : e = 1 ∨ e = 2 ∨ e = 3 ∨ e = 4 ∨ e = 5 ∨ e = 6 ∨ e = 7 ∨ e = 8 ∨ e = 9 ∨ e = 10 ∨ e = 11 ∨ e = 12 ∨ e = 13 ∨ e = 14 ∨ e = 15 ∨ e = 16 ∨ e = 17 ∨ e = 18 ∨ e = 19 ∨ e = 20 ∨ e = 21 ∨ e = 22)
    all_goals
      go_enter Tryz.func215, Tryz.ntmps215
      go_wp2
      go_ret
      exact ⟨rfl, hb⟩
  · rw [nameE_out e (by omega)]
    rcases (by omega : e < 1 ∨ (¬ (e < 1) ∧ 23 ≤ e)) with h1 | ⟨h1, h2⟩
    all_goals
      go_enter Tryz.func215, Tryz.ntmps215
      go_wp2
      go_ret
      exact ⟨rfl, hb⟩
end Go.Proofs.YtonmancgalencaaGreatDoor
namespace Go.Proofs.YtonmancgalencaaGreatDoor
open Go.RowKit Go.Extern
set_option linter.unusedVariables false
set_option linter.unusedSimpArgs false

def strL (F : Nat → ByteArray) (n : Nat) : List Value := (List.range n).map fun i => .string (F i)
theorem strL_succ (F : Nat → ByteArray) (n : Nat) : strL F (n + 1) = strL F n ++ [.string (F n)] := by
  unfold strL
  rw [List.range_succ, List.map_append]
  rfl
theorem strL_get (F : Nat → ByteArray) {i n : Nat} (h : i < n) : (strL F n)[i]? = some (.string (F i)) := by
  unfold strL
  rw [List.getElem?_map, List.getElem?_range h]
  rfl
@[go_sem ↓ high] theorem append_strings (ty : TypeId) (cs : Array Bool) (args : Array Value) : builtin .append #[46, 46] ty cs args = appendNext #[46, 46] ty args := by unfold appendNext; rfl
theorem append_str (w W : World) (base : Nat) (v : Value) (n : Nat) (F : Nat → ByteArray) (g2 : Nat) (t2 : TypeId) (fr : Nat × Nat) (own : W.ownsRow base 9 1 v n (strL F n)) (hn : n ≤ 1048576)
    (hg2 : objAt W g2 = some (.cells #[.string (F n)] t2 fr)) (hG : Below w.heap.size w W) (hwb : w.heap.size ≤ base) (hbW : base ≤ W.heap.size) :
    ∃ g cap w', (appendNext #[46, 46] 46 #[v, .slice (some ⟨g2, 0, none⟩) 1 1]).run Tryz.prog W = .ok (.value (.slice (some ⟨g, 0, none⟩) (n + 1) cap)) w' ∧ w'.ownsRow base 9 1 (.slice (some ⟨g, 0, none⟩) (n + 1) cap) (n + 1) (strL F (n + 1)) ∧
      Below w.heap.size w w' ∧ (∀ m o, m < base → objAt W m = some o → objAt w' m = some o) := by
  obtain ⟨g, cap, w', hr, ho, hb, hk, _⟩ := append_part (i := (Tryz.prog.info? 9).get (by kernel_rfl)) (z := ((Tryz.prog.info? 9).get (by kernel_rfl)).zero.get (by kernel_rfl)) 1 16 Tryz.underlying46 (by kernel_rfl) (by kernel_rfl) (by kernel_rfl) (by kernel_rfl) (by kernel_rfl) (by decide) (by decide) 46 w W base v n (strL F n) ⟨g2, 0, none⟩ 1 1 [.string (F n)] own (by omega) (by decide) rfl
    (fun j x hx => by
      unfold objAt at hg2
      rw [add_lit0, Nat.zero_add, cell_of_row W g2 j _ _ _ hg2]
      simpa using hx) (fun x hx => by obtain rfl : x = _ := by simpa using hx
                                      rfl) hG hwb hbW
  exact ⟨g, cap, w', hr, by rw [strL_succ]; exact ho, hb, hk⟩
def lenV : Value → Nat
  | .slice _ n _ => n
  | _ => 0
/-- the texts from the i-th on, so many -/
def segN (F : Nat → ByteArray) (i : Nat) : Nat → List ByteArray
  | 0 => []
  | k + 1 => F i :: segN F (i + 1) k
theorem segN_cons (F : Nat → ByteArray) {j n : Nat} (h : j < n) : segN F j (n - j) = F j :: segN F (j + 1) (n - (j + 1)) := by
  rw [show n - j = (n - (j + 1)) + 1 by omega]
  rfl
end Go.Proofs.YtonmancgalencaaGreatDoor
namespace Go.Proofs.YtonmancgalencaaGreatDoor
open Go.RowKit Go.Extern
set_option linter.unusedVariables false
set_option linter.unusedSimpArgs false

theorem catN_cons (acc s : ByteArray) (l : List ByteArray) : catN acc (s :: l) = catN (acc ++ s ++ ⟨#[58, 32]⟩) l := rfl
theorem catN_nil (acc : ByteArray) : catN acc [] = acc := rfl
theorem catN_size : ∀ (l : List ByteArray) (acc : ByteArray), (∀ s ∈ l, s.size ≤ 300) → (catN acc l).size ≤ acc.size + 302 * l.length
  | [], acc, _ => Nat.le_refl _
  | s :: l, acc, h => by
    have h1 := catN_size l (acc ++ s ++ sepB) fun s hs => h s (List.mem_cons_of_mem _ hs)
    have h2 := h s (List.mem_cons_self ..)
    rw [ByteArray.size_append, ByteArray.size_append] at h1
    have h3 : sepB.size = 2 := rfl
    show (catN (acc ++ s ++ sepB) l).size ≤ _
    rw [List.length_cons]
    omega
attribute [local irreducible] catN nameE segN
noncomputable def fdeep (w : World) : Value → Nat
  | .pointer none => 0
  | f => deep w (.iface 61 f)
set_option maxRecDepth 100000 in
set_option maxHeartbeats 4000000 in
theorem ferror_any (x : Int) (l : List ByteArray) (g : Nat) (w : World) (hc0 : Chn w l (.iface 48 (.int .i64 x)) (.iface 61 (.pointer (some ⟨g, 0, none⟩)))) (hl : l.length ≤ 60) (hs0 : ∀ s ∈ l, s.size ≤ 300) :
    Calls Tryz.prog 30 #[.pointer (some ⟨g, 0, none⟩)] w fun e w' => e = .returned (.string (catN ⟨#[]⟩ l ++ nameE x)) ∧ Below w.heap.size w w' := by
  have hbr : Bare (.iface 48 (.int .i64 x)) := bare_errno _
  have hts := catN_size l ⟨#[]⟩ hs0
  obtain ⟨TX, hTX⟩ : ∃ TX, TX = catN ⟨#[]⟩ l ++ nameE x := ⟨_, rfl⟩
  have hns := nameE_size x
  rw [← hTX]
  have cn := fun W : World => errno_text x W
  have hB0 : Hid (BldAt (w.alloc (.cells #[.pointer none, .slice none 0 0] 145)) w.heap.size ⟨#[]⟩) := bld_of (objAt_alloc_at _ _ _ rfl)
  have hG0 : Below w.heap.size w (w.alloc (.cells #[.pointer none, .slice none 0 0] 145)) := Grew.alloc (Grew.refl _) _
  have HC0 : Hid (catN ⟨#[]⟩ l ++ nameE x = TX) := hTX.symm
  have HS0 : Hid (∀ s ∈ l, s.size ≤ 300) := hs0
  generalize nameE x = NX at *
  clear hTX hs0 hts
  go_enter Tryz.func30, Tryz.ntmps30
  go_wp2_with fail
  go_loopw [0, 4, 5] (fun f _ _ wr => ∃ acc, Below w.heap.size w wr ∧ Hid (BldAt wr w.heap.size acc) ∧ ((∃ (g : Nat) (l : List ByteArray), f = .pointer (some ⟨g, 0, none⟩) ∧ Chn w l (.iface 48 (.int .i64 x)) (.iface 61 f) ∧ Hid (catN acc l ++ NX = TX) ∧ acc.size + 302 * l.length ≤ 18120 ∧ Hid (∀ s ∈ l, s.size ≤ 300)) ∨ (f = .pointer none ∧ acc = TX))) (fun f _ _ _ => fdeep w f)
  case atStart => exact ⟨_, hG0, hB0, .inl ⟨g, l, rfl, hc0, HC0, by show 0 + _ ≤ _; omega, HS0⟩⟩
  case round =>
    clear hG0 hB0 hc0 HC0 HS0 hl
    obtain ⟨acc, hG, hB, ⟨g, l, rfl, hc, HC, hsz, HS⟩ | ⟨rfl, rfl⟩⟩ := hrel
    · cases l with
      | nil => exact absurd hc.symm (hbr _)
      | cons s l =>
        obtain ⟨g', u, e, hg, hcu⟩ := hc
        cases e
        have hd : deep w u < deep w (.iface 61 (.pointer (some ⟨g, 0, none⟩))) := by
          rw [deep_eq hbr hcu, deep_eq hbr (show Chn w (s :: l) _ _ from ⟨g, u, rfl, hg, hcu⟩), List.length_cons]
          omega
        have hs1 := HS.out s (List.mem_cons_self ..)
        have HS1 : Hid (∀ s ∈ l, s.size ≤ 300) := fun s hs => HS.out s (List.mem_cons_of_mem _ hs)
        rw [List.length_cons] at hsz
        have HC1 : Hid (catN (acc ++ s ++ ⟨#[58, 32]⟩) l ++ NX = TX) := (congrArg (· ++ NX) (catN_cons acc s l)).symm.trans HC.out
        have lg := lt_of_objAt hg
        have fg := keep_below hG hg
        have hb0 := hB.out.lt
        clear HC HS
        obtain ⟨tu, y, hu⟩ : ∃ tu y, u = .iface tu y := by
          cases l with
          | nil => exact ⟨_, _, hcu⟩
          | cons s' l => obtain ⟨g', u', e, _⟩ := hcu; exact ⟨_, _, e⟩
        have write : ∀ (W : World) (a t : ByteArray), Below w.heap.size w W → BldAt W w.heap.size a → a.size + t.size ≤ 100000 → Calls Tryz.prog 79 #[.pointer (some ⟨w.heap.size, 0, none⟩), .string t] W fun e w' => e = .returned (.tuple #[.int .i64 t.size, .nilIface]) ∧ Hid (BldAt w' w.heap.size (a ++ t)) ∧ Below w.heap.size w w' := fun W a t hG hB hl =>
          (bld_write t hB (by omega)).mono fun e w' ⟨e1, h1, h2⟩ => ⟨e1, h1, hG.trans h2⟩
        have hw1 := write wr acc s hG hB.out (by omega)
        have write2 : Hid (∀ (W : World) (a t : ByteArray), Below w.heap.size w W → BldAt W w.heap.size a → a.size + t.size ≤ 100000 → Calls Tryz.prog 79 #[.pointer (some ⟨w.heap.size, 0, none⟩), .string t] W fun e w' => e = .returned (.tuple #[.int .i64 t.size, .nilIface]) ∧ Hid (BldAt w' w.heap.size (a ++ t)) ∧ Below w.heap.size w w') := write
        clear write
        have lfg := lt_of_objAt fg
        subst hu
        go_wp2_with fail
        refine hw1.mono ?_
        rintro e W2 ⟨rfl, hB2, hG2⟩
        replace fg := keep_below hG2 hg
        clear hG hB lfg hw1
        have lfg := lt_of_objAt fg
        have hz2 : (acc ++ s).size ≤ 18120 := by rw [ByteArray.size_append]; omega
        have hw2 := write2.out W2 (acc ++ s) ⟨#[58, 32]⟩ hG2 hB2.out (by show _ + 2 ≤ _; omega)
        go_wp2_with fail
        refine hw2.mono ?_
        rintro e W3 ⟨rfl, hB3, hG3⟩
        replace fg := keep_below hG3 hg
        clear hG2 hB2 lfg hw2
        have lfg := lt_of_objAt fg
        have hz3 : (acc ++ s ++ ⟨#[58, 32]⟩).size ≤ 18130 := by rw [ByteArray.size_append]; show _ + 2 ≤ _; omega
        have hz4 : (acc ++ s ++ ⟨#[58, 32]⟩).size + 302 * l.length ≤ 18120 := by rw [ByteArray.size_append, ByteArray.size_append]; show _ + 2 + _ ≤ _; omega
        generalize acc ++ s ++ ⟨#[58, 32]⟩ = acc3 at *
        cases l with
        | nil =>
          have hu : Value.iface tu y = .iface 48 (.int .i64 x) := hcu
          cases hu
          have cn3 := cn W3
          clear hcu
          go_wp2_with fail
          refine cn3.mono ?_
          rintro e W4 ⟨rfl, hb4⟩
          have hB4 : Hid (BldAt W4 w.heap.size acc3) := hB3.out.later hb4
          have hG4 := Grew.trans hG3 hb4
          have hw4 := write2.out W4 acc3 NX hG4 hB4.out (by omega)
          have HC2 : Hid (acc3 ++ NX = TX) := (congrArg (· ++ NX) (catN_nil acc3)).symm.trans HC1.out
          clear hB3 hG3 hb4 fg lfg cn3
          go_wp2_with fail
          refine hw4.mono ?_
          rintro e W5 ⟨rfl, hB5, hG5⟩
          have hB6 : Hid (BldAt W5 w.heap.size TX) := by rw [← HC2.out]; exact hB5.out
          clear hB4 hG4 hw4 hB5
          have hdd : fdeep w (.pointer none) < fdeep w (.pointer (some ⟨g, 0, none⟩)) := Nat.lt_of_le_of_lt (Nat.zero_le _) hd
          go_wp2
          go_roundw
          case rel => first | exact ⟨_, hG5, hB6, .inr ⟨rfl, rfl⟩⟩ | ((repeat' apply Exists.intro) <;> first | exact ⟨⟨_, hG5, hB6, .inr ⟨rfl, rfl⟩⟩, rfl⟩ | exact undef)
          case measure => exact hdd
        | cons s2 l2 =>
          obtain ⟨g2, u2, e2, hg2, hcu2⟩ := hcu
          cases e2
          have hdd : fdeep w (.pointer (some ⟨g2, 0, none⟩)) < fdeep w (.pointer (some ⟨g, 0, none⟩)) := hd
          have hch : Chn w (s2 :: l2) (.iface 48 (.int .i64 x)) (.iface 61 (.pointer (some ⟨g2, 0, none⟩))) := ⟨g2, u2, rfl, hg2, hcu2⟩
          clear hcu2 hg2 cn
          go_wp2
          go_roundw
          case rel => first | exact ⟨_, hG3, hB3, .inl ⟨g2, _, rfl, hch, HC1, hz4, HS1⟩⟩ | ((repeat' apply Exists.intro) <;> first | exact ⟨⟨_, hG3, hB3, .inl ⟨g2, _, rfl, hch, HC1, hz4, HS1⟩⟩, rfl⟩ | exact undef)
          case measure => exact hdd
    · have hst := bld_string hB.out
      go_wp2_with fail
      refine hst.mono ?_
      rintro e W2 ⟨rfl, hb2⟩
      go_wp2
      go_ret
      exact ⟨rfl, hG.trans hb2⟩
end Go.Proofs.YtonmancgalencaaGreatDoor
namespace Go.Proofs.YtonmancgalencaaGreatDoor
open Go.ChangeShapes Go.WideShapes Go.ChangeAt Go.RowKit
set_option linter.unusedVariables false
set_option linter.unusedSimpArgs false

theorem laid3_of {W : World} (h : laidMetH Tryz.prog [("errors.errorType", Rows.laid_errors_errorType), ("sapwood/sha.square", Rows.laid_sapwood_sha_square), ("sapwood/sha.cube", Rows.laid_sapwood_sha_cube)] W) : Tabs W ∧ EtAt W := by
  refine ⟨tabs_of_laid (laidMetH.filter (fun x => x.1 != "errors.errorType") h), ?_⟩
  have h2 : ∃ name u ty, Rows.laid_errors_errorType.handleName? (H := Unit) = some name ∧ (Tryz.prog.cutTypes.find? (·.1 == "internal/reflectlite.rtype")).map (·.2) = some u ∧ ty < Tryz.prog.types.size ∧ Tryz.prog.rowNamed ty name = true ∧ W.var? Tryz.prog "errors.errorType" = some #[.iface u (.agg #[typeHandle Tryz.prog ty])] :=
    (laidMetH_iff.1 h).2 ("errors.errorType", Rows.laid_errors_errorType) (List.mem_filter.2 ⟨List.mem_cons_self .., rfl⟩)
  obtain ⟨name, u, ty, e1, e2, e3, e4, e5⟩ := h2
  have en : name = [101, 114, 114, 111, 114] := (Option.some.inj e1).symm
  subst en
  have rt : (Tryz.prog.cutTypes.find? (·.1 == "internal/reflectlite.rtype")).map (·.2) = some 174 := by kernel_rfl
  obtain rfl := Option.some.inj (rt.symm.trans e2)
  have one : ((List.range Tryz.prog.types.size).filter fun t => Tryz.prog.rowNamed t [101, 114, 114, 111, 114]) = [50] := by kernel_rfl
  have hm : ty ∈ (List.range Tryz.prog.types.size).filter fun t => Tryz.prog.rowNamed t [101, 114, 114, 111, 114] := List.mem_filter.2 ⟨List.mem_range.2 e3, e4⟩
  rw [one] at hm
  obtain rfl := List.mem_singleton.1 hm
  have hh : typeHandle Tryz.prog 50 = .pointer (some ⟨4, 50, none⟩) := by kernel_rfl
  rw [hh] at e5
  have G0 : Tryz.prog.globalNamed "errors.errorType" = some 0 := by kernel_rfl
  unfold World.var? at e5
  rw [G0] at e5
  simp only [Option.bind_some] at e5
  split at e5
  · rename_i c t fr hx
    obtain rfl := Option.some.inj e5
    exact ⟨t, fr, hx⟩
  · cases e5
/-- a world that has them -/
noncomputable def hw0 (os : Os) : World :=
  let w0 := World.holding Tryz.prog os ⟨#[], #[], []⟩
  { w0 with heap := w0.heap.modify 0 fun
      | .cells _ t frozen => .cells #[.iface 174 (.agg #[.pointer (some ⟨4, 50, none⟩)])] t frozen
      | o => o }
noncomputable def hwL (os : Os) : World := (hw0 os).layVars Tryz.prog [("sapwood/sha.square", Rows.laid_sapwood_sha_square), ("sapwood/sha.cube", Rows.laid_sapwood_sha_cube)]
theorem hwL_os (os : Os) : (hwL os).os = os := World.layVars_os _ _ _
theorem hwL_met (os : Os) (args : Array Value) : laidMetH Tryz.prog [("errors.errorType", Rows.laid_errors_errorType), ("sapwood/sha.square", Rows.laid_sapwood_sha_square), ("sapwood/sha.cube", Rows.laid_sapwood_sha_cube)] ((hwL os).forCall (fun _ _ => 0) ⟨#[], args, []⟩).memory := by
  have h0 : laidMet Tryz.prog [("sapwood/sha.square", Rows.laid_sapwood_sha_square), ("sapwood/sha.cube", Rows.laid_sapwood_sha_cube)] (hwL os) :=
    laidMet_layVars (w0 := hw0 os) ["sapwood/sha.square", "sapwood/sha.cube"] [] rfl (by kernel_rfl) (by kernel_rfl) (by exact LaidIn.none)
  refine laidMetH_of_parts ?_ (by kernel_rfl)
  exact h0.of_heap (by simp [World.memory, World.forCall, Input.heap])
end Go.Proofs.YtonmancgalencaaGreatDoor
namespace Go.Proofs.YtonmancgalencaaGreatDoor
open Go.RowKit Go.Extern
set_option linter.unusedVariables false
set_option linter.unusedSimpArgs false

theorem setup_text : catN ⟨#[]⟩ [⟨#[115, 101, 116, 117, 112]⟩] ++ nameE 8 = ⟨#[115, 101, 116, 117, 112, 58, 32, 109, 97, 99]⟩ := by decide +kernel
theorem bare_text_size : (⟨#[115, 101, 116, 117, 112]⟩ : ByteArray).size ≤ 300 := by decide
attribute [local irreducible] catN nameE segN
set_option maxRecDepth 100000 in
set_option maxHeartbeats 4000000 in
theorem awake15_any (aw : ∀ W : World, Tabs W → Calls Tryz.prog 72 #[] W fun e w' => e = .returned (.bool true) ∧ Below W.heap.size W w') (w : World) (hT : Tabs w) (hE : EtAt w) :
    Calls Tryz.prog 21 #[] w fun e w' => e = .returned (.bool true) ∧ Below w.heap.size w w' := by
  have hc : Chn (w.alloc (.cells #[.string ⟨#[115, 101, 116, 117, 112]⟩, .iface 48 (.int .i64 8)] 64)) [⟨#[115, 101, 116, 117, 112]⟩] (.iface 48 (.int .i64 8)) (.iface 61 (.pointer (some ⟨w.heap.size, 0, none⟩))) := ⟨_, _, rfl, objAt_alloc_at _ _ _ rfl, rfl⟩
  have hG : Below w.heap.size w (w.alloc (.cells #[.string ⟨#[115, 101, 116, 117, 112]⟩, .iface 48 (.int .i64 8)] 64)) := Grew.alloc (Grew.refl _) _
  have HT : Hid (Tabs w) := hT
  have HE : Hid (EtAt w) := hE
  have cE : Hid (∀ W, Chn W [⟨#[115, 101, 116, 117, 112]⟩] (.iface 48 (.int .i64 8)) (.iface 61 (.pointer (some ⟨w.heap.size, 0, none⟩))) → Calls Tryz.prog 30 #[.pointer (some ⟨w.heap.size, 0, none⟩)] W fun e w' => e = .returned (.string ⟨#[115, 101, 116, 117, 112, 58, 32, 109, 97, 99]⟩) ∧ Below W.heap.size W w') := fun W h => by
    have := ferror_any 8 _ _ W h (by decide) (fun s hs => List.mem_singleton.1 hs ▸ bare_text_size)
    rw [setup_text] at this
    exact this
  clear hT hE
  go_enter Tryz.func21, Tryz.ntmps21
  go_wp2_with fail
  refine (wrap_any _ _ _ _).mono ?_
  rintro e w1 ⟨rfl, rfl⟩
  generalize w.alloc (.cells #[.string ⟨#[115, 101, 116, 117, 112]⟩, .iface 48 (.int .i64 8)] 64) = w1 at *
  go_wp2_with fail
  refine (aw _ (HT.out.later hG)).mono ?_
  rintro e w2 ⟨rfl, hb⟩
  replace hc := hc.later hb
  replace hG := Grew.trans hG hb
  clear hb aw
  go_wp2_with fail
  refine (cE.out _ hc).mono ?_
  rintro e w3 ⟨rfl, hb⟩
  replace hc := hc.later hb
  replace hG := Grew.trans hG hb
  clear hb cE
  go_wp2_with fail
  refine (Code_e 8 _ _ _ (HE.out.later hG) hc).mono ?_
  rintro e w4 ⟨rfl, hb⟩
  replace hG := Grew.trans hG hb
  clear hb hc
  go_wp2
  go_ret
  exact ⟨rfl, hG⟩
set_option maxRecDepth 100000 in
set_option maxHeartbeats 4000000 in
theorem Awake14_any (aw : ∀ W : World, Tabs W → Calls Tryz.prog 9 #[] W fun e w' => e = .returned (.bool true) ∧ Below W.heap.size W w') (w : World) (hT : Tabs w) :
    Calls Tryz.prog 72 #[] w fun e w' => e = .returned (.bool true) ∧ Below w.heap.size w w' := by
  go_enter Tryz.func72, Tryz.ntmps72
  go_wp2_with fail
  refine (aw _ hT).mono ?_
  rintro e w2 ⟨rfl, hb⟩
  go_wp2
  go_ret
  exact ⟨rfl, hb⟩
end Go.Proofs.YtonmancgalencaaGreatDoor
namespace Go.Proofs.YtonmancgalencaaGreatDoor
open Go.RowKit Go.Extern
set_option linter.unusedVariables false
set_option linter.unusedSimpArgs false

/-- a number's lowest k bytes, at the end of eight -/
def lowF (n : Int) (k : Nat) : Nat → Int := fun j => if 8 - k ≤ j then n / 2 ^ (8 * (7 - j)) % 256 else 0
theorem lowF_zero (n : Int) : ints .u8 8 (lowF n 0) = ints .u8 8 nought := ints_congr fun i hi => by
  unfold lowF nought
  rw [if_neg (by omega)]
theorem lowF_succ (n : Int) (k : Nat) (hk : k < 8) : ints .u8 8 (upd (lowF n k) (7 - k) (n / 2 ^ (8 * k) % 256)) = ints .u8 8 (lowF n (k + 1)) := ints_congr fun i hi => by
  unfold upd lowF
  by_cases e : i = 7 - k
  · subst e
    rw [if_pos rfl, if_pos (by omega), show 7 - (7 - k) = k by omega]
  · rw [if_neg e]
    by_cases h : 8 - k ≤ i
    · rw [if_pos h, if_pos (by omega)]
    · rw [if_neg h, if_neg (by omega)]
set_option maxRecDepth 100000 in
set_option maxHeartbeats 4000000 in
theorem width_any (size : Int) (w : World) :
    Calls Tryz.prog 84 #[.int .i64 size] w fun e w' => e = .returned (.int .i64 (min (max size 0) 8)) ∧ w' = w := by
  go_enter Tryz.func84, Tryz.ntmps84
  go_wp2
  go_ret
  exact ⟨rfl, rfl⟩
set_option maxRecDepth 100000 in
set_option maxHeartbeats 4000000 in
theorem wraw_any (p : Option Addr) (s : ByteArray) (w : World) :
    Calls Tryz.prog 50 #[.agg #[.pointer p], .string s] w fun e w' => ∃ g, e = .returned (.agg #[.pointer (some ⟨g, 0, none⟩)]) ∧ objAt w' g = some (.cells #[.pointer p, .string (s)] 157) ∧ Below w.heap.size w w' := by
  go_enter Tryz.func50, Tryz.ntmps50
  go_wp2
  have f1 : objAt (((w.alloc (.cells #[.pointer p] 92)).alloc (.cells #[.pointer (some ⟨w.heap.size + 1 + 1, 0, none⟩)] 92)).alloc (.cells #[.pointer p, .string s] 157)) (w.heap.size + 1) = some (.cells #[.pointer (some ⟨w.heap.size + 1 + 1, 0, none⟩)] 92) := keep_alloc _ (objAt_alloc_at _ _ _ (by simp))
  refine ret_row rfl _ 92 _ (0, 0) _ rfl f1 Tryz.underlying92 rfl (by kernel_rfl) rfl ⟨_, rfl, objAt_alloc_at _ _ _ (by simp), Grew.alloc (Grew.alloc (Grew.alloc (Grew.refl w) _) _) _⟩
theorem wrap_small {q : Int} (h0 : 0 ≤ q) (h1 : q ≤ 9223372036854775807) : IntKind.i64.wrap q = q := by
  simp only [IntKind.wrap, IntKind.signed, IntKind.bits]
  simp
  omega
theorem conv_sub {q : Nat} {f : Nat → Int} {W : World} {g : Nat} {t : TypeId} {fr : Nat × Nat} (h : objAt W g = some (.cells (ints .u8 8 f) t fr)) (hq : q ≤ 8) (m : More) : (convert 143 9 (.slice (some (if 8 = q then ⟨g, 0, none⟩ else ⟨g, q, none⟩)) (8 - q) (8 - q))).run Tryz.prog (more W m) = .ok (.string (strOf (8 - q) (fun j => f (q + j)))) (more W m) := by
  have hg := keep_more m h
  unfold objAt at hg
  rw [run_convert_bytes_string _ _ _ _ _ _ _ Tryz.underlying143 Tryz.underlying5 Tryz.underlying9]
  unfold strOf
  refine run_bytesToString _ _ _ _ ((List.range (8 - q)).map (fun j => f (q + j))) ?_
  have h2 := run_loadCells_list (P := Tryz.prog) (more W m) (if 8 = q then ⟨g, 0, none⟩ else ⟨g, q, none⟩) (((List.range (8 - q)).map (fun j => f (q + j))).map (Value.int .u8)) (fun j u hu => by
    have hj : j < 8 - q := by
      rcases Nat.lt_or_ge j (8 - q) with h | h
      · exact h
      · rw [List.getElem?_eq_none (by simpa using h)] at hu; cases hu
    rw [if_neg (by omega)]
    have hadd : (⟨g, q, none⟩ : Addr).add j = ⟨g, q + j, none⟩ := by unfold Addr.add; split <;> simp_all
    rw [hadd, cell_of_row (more W m) g (q + j) _ _ _ hg]
    rw [List.map_map, List.getElem?_map, List.getElem?_range hj] at hu
    rw [← hu]
    rw [ints_get _ _ _ _ (by omega)]
    rfl)
  simpa using h2
/-- the bytes of a number, the greatest first -/
def numB (d : Nat) (n : Int) : ByteArray := strOf d (fun j => n / 2 ^ (8 * (d - 1 - j)) % 256)
theorem numB_low {q : Nat} (hq : q ≤ 8) (n : Int) : strOf (8 - q) (fun j => lowF n 8 (q + j)) = numB (8 - q) n := strOf_congr fun j hj => by
  unfold lowF
  rw [if_pos (by omega), show 7 - (q + j) = 8 - q - 1 - j by omega]
set_option maxRecDepth 100000 in
set_option maxHeartbeats 4000000 in
theorem wnum_any (size n : Int) (p : Option Addr) (w : World) (hn0 : 0 ≤ n) (hn1 : n ≤ 18446744073709551615) :
    Calls Tryz.prog 46 #[.agg #[.pointer p], .int .i64 size, .int .u64 n] w fun e w' => ∃ g, e = .returned (.agg #[.pointer (some ⟨g, 0, none⟩)]) ∧ objAt w' g = some (.cells #[.pointer p, .string (numB (min (max size 0) 8).toNat n)] 157) ∧ Below w.heap.size w w' := by
  go_enter Tryz.func46, Tryz.ntmps46
  go_wp2
  go_loopw [8, 9] (fun _ i wr => ∃ k : Nat, k ≤ 8 ∧ i = .int .i64 k ∧ wr = (((w.alloc (.cells #[.pointer p] 92)).alloc (.cells #[.pointer none] 92)).alloc (.cells (ints .u8 8 (lowF n k)) 155))) (fun _ i _ => 8 - (intOf i).toNat)
  case atStart => exact ⟨0, by omega, rfl, by rw [lowF_zero]⟩
  case round =>
    obtain ⟨k, hk, rfl, rfl⟩ := hrel
    by_cases hlt : k < 8
    · have hlt' : (k : Int) < 8 := by omega
      have h80 : ¬ (8 * (k : Int) < 0) := by omega
      have h71 : (7 : Int) - (k : Int) < 8 := by omega
      have h70 : (0 : Int) ≤ (7 : Int) - (k : Int) := by omega
      have h72 : 7 - k < 8 := by omega
      have h73 : ((7 : Int) - (k : Int)).toNat = 7 - k := by omega
      go_wp2
      go_roundw
      case rel => exact ⟨k + 1, by omega, by go_num, by rw [lowF_succ n k hlt]⟩
      case measure => simp [intOf]; omega
    · go_wp2
      obtain rfl : k = 8 := by omega
      have f0 : objAt (((w.alloc (.cells #[.pointer p] 92)).alloc (.cells #[.pointer none] 92)).alloc (.cells (ints .u8 8 (lowF n 8)) 155)) w.heap.size = some (.cells #[.pointer p] 92) := keep_alloc _ (keep_alloc _ (objAt_alloc_at _ _ _ rfl))
      have f1 : objAt (((w.alloc (.cells #[.pointer p] 92)).alloc (.cells #[.pointer none] 92)).alloc (.cells (ints .u8 8 (lowF n 8)) 155)) (w.heap.size + 1) = some (.cells #[.pointer none] 92) := keep_alloc _ (objAt_alloc_at _ _ _ (by simp))
      have f2 : objAt (((w.alloc (.cells #[.pointer p] 92)).alloc (.cells #[.pointer none] 92)).alloc (.cells (ints .u8 8 (lowF n 8)) 155)) (w.heap.size + 1 + 1) = some (.cells (ints .u8 8 (lowF n 8)) 155) := objAt_alloc_at _ _ _ (by simp)
      have hG : Below w.heap.size w (((w.alloc (.cells #[.pointer p] 92)).alloc (.cells #[.pointer none] 92)).alloc (.cells (ints .u8 8 (lowF n 8)) 155)) := Grew.alloc (Grew.alloc (Grew.alloc (Grew.refl _) _) _) _
      generalize ((w.alloc (.cells #[.pointer p] 92)).alloc (.cells #[.pointer none] 92)).alloc (.cells (ints .u8 8 (lowF n 8)) 155) = w3 at *
      obtain ⟨d, hd, hd8⟩ : ∃ d : Nat, min (max size 0) 8 = (d : Int) ∧ d ≤ 8 := ⟨(min (max size 0) 8).toNat, by omega, by omega⟩
      have cWd := fun W => width_any size W
      rw [hd] at cWd
      obtain ⟨q, rfl, hq8⟩ : ∃ q : Nat, d = 8 - q ∧ q ≤ 8 := ⟨8 - d, by omega, by omega⟩
      have wq : IntKind.i64.wrap (8 - ((8 - q : Nat) : Int)) = (q : Int) := by
        rw [show (8 : Int) - ((8 - q : Nat) : Int) = (q : Int) by omega]
        exact wrap_small (by omega) (by omega)
      have q1 : (q : Int) ≤ 8 := by omega
      have q0 : (0 : Int) ≤ (q : Int) := by omega
      refine wp_region_any (by kernel_rfl) ?_
      rw [show ({ w3 with drawn := w3.drawn + 1 } : World) = more w3 ⟨w3.drawn + 1, #[]⟩ from by simp [more]]
      generalize (⟨w3.drawn + 1, #[]⟩ : More) = m8
      have f0m := keep_more m8 f0
      have f1m := keep_more m8 f1
      have f2m := keep_more m8 f2
      refine tail_two (i := 0) (j := 1) (fuel := 7) (by kernel_rfl) rfl rfl ?_ ?_
      · intro K hK
        go_simp
        refine hK _ _ ?_
        clear hK K
        refine tail_one (i := 1) (fuel := 6) (by kernel_rfl) rfl ?_
        intro K hK
        go_simp
        refine hK _ _ ?_
        clear hK K
        refine tail_one (i := 2) (fuel := 5) (by kernel_rfl) rfl ?_
        intro K hK
        go_simp
        refine (cWd _).mono ?_
        rintro e9 w9 ⟨rfl, rfl⟩
        refine hK _ _ ?_
        clear hK K
        refine tail_one (i := 3) (fuel := 4) (by kernel_rfl) rfl ?_
        intro K hK
        go_simp
        (try simp only [wq])
        refine hK _ _ ?_
        clear hK K
        refine tail_one (i := 4) (fuel := 3) (by kernel_rfl) rfl ?_
        intro K hK
        go_simp
        refine hK _ _ ?_
        clear hK K
        refine tail_one (i := 5) (fuel := 2) (by kernel_rfl) rfl ?_
        intro K hK
        go_simp
        rw [conv_sub f2 hq8 m8, numB_low hq8]
        generalize (if 8 = q then (⟨w.heap.size + 1 + 1, 0, none⟩ : Addr) else ⟨w.heap.size + 1 + 1, q, none⟩) = aq at *
        go_simp
        refine hK _ _ ?_
        clear hK K
        refine tail_one (i := 6) (fuel := 1) (by kernel_rfl) rfl ?_
        intro K hK
        go_simp
        refine (wraw_any _ _ _).mono ?_
        rintro e9 w9 ⟨g, rfl, fg, hb⟩
        have f1b := keep_below hb f1m
        have hGb := Grew.trans (Grew.more hG m8) hb
        clear hb
        refine hK _ _ ?_
        clear hK K
        refine tail_one (i := 7) (fuel := 0) (by kernel_rfl) rfl ?_
        intro K hK
        go_simp
        refine hK _ _ ?_
        clear hK K
        refine wpAny_done (by kernel_rfl) ?_ _
        go_wp2
        refine ret_row rfl _ 92 _ (0, 0) _ rfl (keep_row _ f1b) Tryz.underlying92 rfl (by kernel_rfl) rfl ⟨_, rfl, by rw [hd, Int.toNat_natCast]; exact (objAt_setRow_ne _ _ _ _ (fun e => by rw [e, f1b] at fg; cases fg)).trans fg, Grew.setRow hGb _ _ (by omega)⟩
      · intro K hK
        go_simp
        refine hK _ _ ?_
        clear hK K
        refine tail_two (i := 0) (j := 2) (fuel := 6) (by kernel_rfl) rfl rfl ?_ ?_
        · intro K hK
          go_simp
          refine hK _ _ ?_
          clear hK K
          refine tail_one (i := 2) (fuel := 5) (by kernel_rfl) rfl ?_
          intro K hK
          go_simp
          refine (cWd _).mono ?_
          rintro e9 w9 ⟨rfl, rfl⟩
          refine hK _ _ ?_
          clear hK K
          refine tail_one (i := 3) (fuel := 4) (by kernel_rfl) rfl ?_
          intro K hK
          go_simp
          (try simp only [wq])
          refine hK _ _ ?_
          clear hK K
          refine tail_one (i := 4) (fuel := 3) (by kernel_rfl) rfl ?_
          intro K hK
          go_simp
          refine hK _ _ ?_
          clear hK K
          refine tail_one (i := 5) (fuel := 2) (by kernel_rfl) rfl ?_
          intro K hK
          go_simp
          rw [conv_sub f2 hq8 m8, numB_low hq8]
          generalize (if 8 = q then (⟨w.heap.size + 1 + 1, 0, none⟩ : Addr) else ⟨w.heap.size + 1 + 1, q, none⟩) = aq at *
          go_simp
          refine hK _ _ ?_
          clear hK K
          refine tail_one (i := 6) (fuel := 1) (by kernel_rfl) rfl ?_
          intro K hK
          go_simp
          refine (wraw_any _ _ _).mono ?_
          rintro e9 w9 ⟨g, rfl, fg, hb⟩
          have f1b := keep_below hb f1m
          have hGb := Grew.trans (Grew.more hG m8) hb
          clear hb
          refine hK _ _ ?_
          clear hK K
          refine tail_one (i := 7) (fuel := 0) (by kernel_rfl) rfl ?_
          intro K hK
          go_simp
          refine hK _ _ ?_
          clear hK K
          refine wpAny_done (by kernel_rfl) ?_ _
          go_wp2
          refine ret_row rfl _ 92 _ (0, 0) _ rfl (keep_row _ f1b) Tryz.underlying92 rfl (by kernel_rfl) rfl ⟨_, rfl, by rw [hd, Int.toNat_natCast]; exact (objAt_setRow_ne _ _ _ _ (fun e => by rw [e, f1b] at fg; cases fg)).trans fg, Grew.setRow hGb _ _ (by omega)⟩
        · intro K hK
          go_simp
          refine (cWd _).mono ?_
          rintro e9 w9 ⟨rfl, rfl⟩
          refine hK _ _ ?_
          clear hK K
          refine tail_two (i := 0) (j := 3) (fuel := 5) (by kernel_rfl) rfl rfl ?_ ?_
          · intro K hK
            go_simp
            refine hK _ _ ?_
            clear hK K
            refine tail_one (i := 3) (fuel := 4) (by kernel_rfl) rfl ?_
            intro K hK
            go_simp
            (try simp only [wq])
            refine hK _ _ ?_
            clear hK K
            refine tail_one (i := 4) (fuel := 3) (by kernel_rfl) rfl ?_
            intro K hK
            go_simp
            refine hK _ _ ?_
            clear hK K
            refine tail_one (i := 5) (fuel := 2) (by kernel_rfl) rfl ?_
            intro K hK
            go_simp
            rw [conv_sub f2 hq8 m8, numB_low hq8]
            generalize (if 8 = q then (⟨w.heap.size + 1 + 1, 0, none⟩ : Addr) else ⟨w.heap.size + 1 + 1, q, none⟩) = aq at *
            go_simp
            refine hK _ _ ?_
            clear hK K
            refine tail_one (i := 6) (fuel := 1) (by kernel_rfl) rfl ?_
            intro K hK
            go_simp
            refine (wraw_any _ _ _).mono ?_
            rintro e9 w9 ⟨g, rfl, fg, hb⟩
            have f1b := keep_below hb f1m
            have hGb := Grew.trans (Grew.more hG m8) hb
            clear hb
            refine hK _ _ ?_
            clear hK K
            refine tail_one (i := 7) (fuel := 0) (by kernel_rfl) rfl ?_
            intro K hK
            go_simp
            refine hK _ _ ?_
            clear hK K
            refine wpAny_done (by kernel_rfl) ?_ _
            go_wp2
            refine ret_row rfl _ 92 _ (0, 0) _ rfl (keep_row _ f1b) Tryz.underlying92 rfl (by kernel_rfl) rfl ⟨_, rfl, by rw [hd, Int.toNat_natCast]; exact (objAt_setRow_ne _ _ _ _ (fun e => by rw [e, f1b] at fg; cases fg)).trans fg, Grew.setRow hGb _ _ (by omega)⟩
          · intro K hK
            go_simp
            (try simp only [wq])
            refine hK _ _ ?_
            clear hK K
            refine tail_two (i := 0) (j := 4) (fuel := 4) (by kernel_rfl) rfl rfl ?_ ?_
            · intro K hK
              go_simp
              refine hK _ _ ?_
              clear hK K
              refine tail_one (i := 4) (fuel := 3) (by kernel_rfl) rfl ?_
              intro K hK
              go_simp
              refine hK _ _ ?_
              clear hK K
              refine tail_one (i := 5) (fuel := 2) (by kernel_rfl) rfl ?_
              intro K hK
              go_simp
              rw [conv_sub f2 hq8 m8, numB_low hq8]
              generalize (if 8 = q then (⟨w.heap.size + 1 + 1, 0, none⟩ : Addr) else ⟨w.heap.size + 1 + 1, q, none⟩) = aq at *
              go_simp
              refine hK _ _ ?_
              clear hK K
              refine tail_one (i := 6) (fuel := 1) (by kernel_rfl) rfl ?_
              intro K hK
              go_simp
              refine (wraw_any _ _ _).mono ?_
              rintro e9 w9 ⟨g, rfl, fg, hb⟩
              have f1b := keep_below hb f1m
              have hGb := Grew.trans (Grew.more hG m8) hb
              clear hb
              refine hK _ _ ?_
              clear hK K
              refine tail_one (i := 7) (fuel := 0) (by kernel_rfl) rfl ?_
              intro K hK
              go_simp
              refine hK _ _ ?_
              clear hK K
              refine wpAny_done (by kernel_rfl) ?_ _
              go_wp2
              refine ret_row rfl _ 92 _ (0, 0) _ rfl (keep_row _ f1b) Tryz.underlying92 rfl (by kernel_rfl) rfl ⟨_, rfl, by rw [hd, Int.toNat_natCast]; exact (objAt_setRow_ne _ _ _ _ (fun e => by rw [e, f1b] at fg; cases fg)).trans fg, Grew.setRow hGb _ _ (by omega)⟩
            · intro K hK
              go_simp
              refine hK _ _ ?_
              clear hK K
              refine tail_two (i := 0) (j := 5) (fuel := 3) (by kernel_rfl) rfl rfl ?_ ?_
              · intro K hK
                go_simp
                refine hK _ _ ?_
                clear hK K
                refine tail_one (i := 5) (fuel := 2) (by kernel_rfl) rfl ?_
                intro K hK
                go_simp
                rw [conv_sub f2 hq8 m8, numB_low hq8]
                generalize (if 8 = q then (⟨w.heap.size + 1 + 1, 0, none⟩ : Addr) else ⟨w.heap.size + 1 + 1, q, none⟩) = aq at *
                go_simp
                refine hK _ _ ?_
                clear hK K
                refine tail_one (i := 6) (fuel := 1) (by kernel_rfl) rfl ?_
                intro K hK
                go_simp
                refine (wraw_any _ _ _).mono ?_
                rintro e9 w9 ⟨g, rfl, fg, hb⟩
                have f1b := keep_below hb f1m
                have hGb := Grew.trans (Grew.more hG m8) hb
                clear hb
                refine hK _ _ ?_
                clear hK K
                refine tail_one (i := 7) (fuel := 0) (by kernel_rfl) rfl ?_
                intro K hK
                go_simp
                refine hK _ _ ?_
                clear hK K
                refine wpAny_done (by kernel_rfl) ?_ _
                go_wp2
                refine ret_row rfl _ 92 _ (0, 0) _ rfl (keep_row _ f1b) Tryz.underlying92 rfl (by kernel_rfl) rfl ⟨_, rfl, by rw [hd, Int.toNat_natCast]; exact (objAt_setRow_ne _ _ _ _ (fun e => by rw [e, f1b] at fg; cases fg)).trans fg, Grew.setRow hGb _ _ (by omega)⟩
              · intro K hK
                go_simp
                rw [conv_sub f2 hq8 m8, numB_low hq8]
                generalize (if 8 = q then (⟨w.heap.size + 1 + 1, 0, none⟩ : Addr) else ⟨w.heap.size + 1 + 1, q, none⟩) = aq at *
                go_simp
                refine hK _ _ ?_
                clear hK K
                refine tail_one (i := 0) (fuel := 2) (by kernel_rfl) rfl ?_
                intro K hK
                go_simp
                refine hK _ _ ?_
                clear hK K
                refine tail_one (i := 6) (fuel := 1) (by kernel_rfl) rfl ?_
                intro K hK
                go_simp
                refine (wraw_any _ _ _).mono ?_
                rintro e9 w9 ⟨g, rfl, fg, hb⟩
                have f1b := keep_below hb f1m
                have hGb := Grew.trans (Grew.more hG m8) hb
                clear hb
                refine hK _ _ ?_
                clear hK K
                refine tail_one (i := 7) (fuel := 0) (by kernel_rfl) rfl ?_
                intro K hK
                go_simp
                refine hK _ _ ?_
                clear hK K
                refine wpAny_done (by kernel_rfl) ?_ _
                go_wp2
                refine ret_row rfl _ 92 _ (0, 0) _ rfl (keep_row _ f1b) Tryz.underlying92 rfl (by kernel_rfl) rfl ⟨_, rfl, by rw [hd, Int.toNat_natCast]; exact (objAt_setRow_ne _ _ _ _ (fun e => by rw [e, f1b] at fg; cases fg)).trans fg, Grew.setRow hGb _ _ (by omega)⟩
end Go.Proofs.YtonmancgalencaaGreatDoor
namespace Go.Proofs.YtonmancgalencaaGreatDoor
open Go.RowKit Go.Extern
set_option linter.unusedVariables false
set_option linter.unusedSimpArgs false

def srevRen : Go.Shelf.Ren := ⟨fun | 17 => 85 | n => n, fun | 24 => 46 | 9 => 9 | 3 => 3 | 4 => 4 | n => n, fun | n => n⟩
theorem srevLay : Go.Proofs.Lays2.n17 Tryz.prog srevRen := {
  mixed := by kernel_rfl
  f17 := Tryz.func85.trans (congrArg some (by kernel_rfl))
  t0 := by kernel_rfl
  a0 := fun _ => by kernel_rfl
  z0 := fun _ => by kernel_rfl
  v0 := fun _ => by kernel_rfl
  t3 := Tryz.underlying3
  a3 := Tryz.isAgg3
  z3 := Tryz.sizeOf3
  v3 := Tryz.zeroValue3
  t4 := Tryz.underlying4
  a4 := Tryz.isAgg4
  z4 := Tryz.sizeOf4
  v4 := Tryz.zeroValue4
  t9 := Tryz.underlying9
  a9 := Tryz.isAgg9
  z9 := Tryz.sizeOf9
  v9 := Tryz.zeroValue9
  t24 := Tryz.underlying46
  a24 := Tryz.isAgg46
  z24 := Tryz.sizeOf46
  v24 := Tryz.zeroValue46 }
theorem srev_own {base n : Nat} {v : Value} {F : Nat → ByteArray} (w : World) (h : w.ownsRow base 9 1 v n (strL F n)) (hL : n ≤ 1000) :
    Calls Tryz.prog 85 #[v] w fun e w' => e = .returned (.tuple #[]) ∧ (∃ oa c, v = .slice oa n c ∧ n ≤ c ∧ StrsAt w' oa n (fun i => F (n - 1 - i))) ∧ Below base w w' := by
  rcases h.2 with ⟨rfl, h0⟩ | ⟨g, cap, cur, rfl, hb, hg, hnc, hcm, hcs, htake⟩
  · subst h0
    refine (Any.slices_Reverse_string_empty srevLay none 0 w).mono ?_
    rintro e w' ⟨rfl, rfl⟩
    exact ⟨rfl, ⟨none, 0, rfl, by omega, .inl rfl⟩, Below.refl _ _⟩
  · have hn : ((List.range n).map fun i => (F i).data.toList).length = n := by simp
    have hH : Sort.Holds encStr w g 0 ((List.range n).map fun i => (F i).data.toList).toArray := fun j hj => by
      have hj' : j < n := by simpa using hj
      refine ⟨?_, by rw [Nat.zero_add]; exact frozen_of_row w g _ _ _ hg⟩
      rw [Nat.zero_add, cell_of_row w g j _ _ _ hg]
      have h1 := strL_get F hj'
      rw [← htake, List.getElem?_take, if_pos (by omega)] at h1
      rw [getElem!_pos _ j hj]
      simpa using h1
    have hc := Any.slices_Reverse_string srevLay g 0 cap ((List.range n).map fun i => (F i).data.toList) w hH (by rw [hn]; omega)
    rw [hn] at hc
    refine hc.mono ?_
    rintro e w' ⟨rfl, n', rfl⟩
    have hH2 : Sort.Holds encStr (Sort.putRow encStr (Sort.ahead w n') g 0 ((List.range n).map fun i => (F i).data.toList).reverse.toArray) g 0 ((List.range n).map fun i => (F i).data.toList).reverse.toArray := Sort.holds_putRow encStr _ g 0 ((List.range n).map fun i => (F i).data.toList).toArray _ hH (by simp)
    refine ⟨rfl, ⟨_, _, rfl, hnc, .inr ⟨_, rfl, fun w'' hb' j hj => ?_⟩⟩, Lib.below_putRow (Below.refl _ _) hb⟩
    have hj' : j < ((List.range n).map fun i => (F i).data.toList).reverse.toArray.size := by simpa using hj
    have c1 := (hH2 j hj').1
    rw [getElem!_pos _ j hj'] at c1
    have hadd : (⟨g, 0, none⟩ : Addr).add j = ⟨g, 0 + j, none⟩ := by unfold Addr.add; split <;> simp_all
    rw [hadd, hb'.cell (cell_lt c1), c1]
    simp
end Go.Proofs.YtonmancgalencaaGreatDoor
namespace Go.Proofs.YtonmancgalencaaGreatDoor
open Go.RowKit Go.Extern
set_option linter.unusedVariables false
set_option linter.unusedSimpArgs false

theorem segN_nil (F : Nat → ByteArray) (i : Nat) : segN F i 0 = [] := rfl
/-- what is written, the last first -/
def Pcs (w : World) : List ByteArray → Value → Prop
  | [], v => v = .pointer none
  | s :: l, v => ∃ g u, v = .pointer (some ⟨g, 0, none⟩) ∧ objAt w g = some (.cells #[u, .string s] 157) ∧ Pcs w l u
theorem Pcs.later {w w' : World} {l : List ByteArray} {v : Value} (h : Pcs w l v) (hb : Below w.heap.size w w') : Pcs w' l v := by
  induction l generalizing v with
  | nil => exact h
  | cons s l ih =>
    obtain ⟨g, u, e, hg, hu⟩ := h
    exact ⟨g, u, e, keep_below hb hg, ih hu⟩
theorem Pcs.ptr {w : World} {l : List ByteArray} {v : Value} (h : Pcs w l v) : ∃ p, v = .pointer p := by
  cases l with
  | nil => exact ⟨_, h⟩
  | cons s l => obtain ⟨g, u, e, _⟩ := h; exact ⟨_, e⟩
set_option maxRecDepth 100000 in
set_option maxHeartbeats 4000000 in
theorem wtext_any (F : Nat → ByteArray) (n : Nat) (v : Value) (w : World) (hc0 : Pcs w (segN F 0 n) v) (hn : n ≤ 1000) (hl : (catS (fun i => F (n - 1 - i)) n).size + n ≤ 140737488355328) :
    Calls Tryz.prog 47 #[.agg #[v]] w fun e w' => e = .returned (.string (catS (fun i => F (n - 1 - i)) n)) ∧ Below w.heap.size w w' := by
  obtain ⟨p0, rfl⟩ := hc0.ptr
  go_enter Tryz.func47, Tryz.ntmps47
  go_wp2_with fail
  have hG0 : Below w.heap.size w (w.alloc (.cells #[.pointer p0] 92)) := Grew.alloc (Grew.refl _) _
  go_loopw [4, 3] (fun v ns wr => ∃ (j : Nat) (v0 n0 : Value), n0 = ns ∧ v0 = v ∧ j ≤ n ∧ Below w.heap.size w wr ∧ Pcs w (segN F j (n - j)) v0 ∧ Hid (wr.ownsRow w.heap.size 9 1 n0 j (strL F j)) ∧ lenV n0 = j) (fun _ ns _ => n - lenV ns)
  case atStart => exact ⟨0, _, _, rfl, rfl, by omega, hG0, by rw [Nat.sub_zero]; exact hc0, World.ownsRow_nil _ _ _ _, rfl⟩
  case round =>
    clear hG0 hc0
    obtain ⟨j, v0, n0, rfl, rfl, hj, hG, hc, OWN, hlen⟩ := hrel
    by_cases hlt : j < n
    · rw [segN_cons F hlt] at hc
      obtain ⟨g, u, rfl, hg, hcu⟩ := hc
      obtain ⟨pu, rfl⟩ := hcu.ptr
      have fg := keep_below hG hg
      have lfg := lt_of_objAt fg
      obtain ⟨g3, c3, w3, hr3, own3, hb3, hk3⟩ := append_str w (wr.alloc (.cells #[.string (F j)] 9)) w.heap.size n0 j F wr.heap.size _ _ (World.ownsRow.alloc OWN.out _) (by omega) (objAt_alloc_at _ _ _ rfl) (Grew.alloc hG _) (Nat.le_refl _) (by have := hG.size; simp; omega)
      have fg3 := keep_below hb3 hg
      have lfg3 := lt_of_objAt fg3
      have OWN3 : Hid (w3.ownsRow w.heap.size 9 1 (.slice (some ⟨g3, 0, none⟩) (j + 1) c3) (j + 1) (strL F (j + 1))) := own3
      clear own3 OWN hk3
      go_wp2
      go_roundw
      case rel => first | exact ⟨j + 1, _, _, rfl, rfl, by omega, hb3, hcu, OWN3, rfl⟩ | ((repeat' apply Exists.intro) <;> first | exact ⟨⟨j + 1, _, _, rfl, rfl, by omega, hb3, hcu, OWN3, rfl⟩, rfl⟩ | exact undef)
      case measure => (show n - (j + 1) < n - lenV n0; omega)
    · obtain rfl : n = j := by omega
      rw [Nat.sub_self, segN_nil] at hc
      obtain rfl : v0 = .pointer none := hc
      go_wp2_with fail
      refine (srev_own _ OWN.out hn).mono ?_
      rintro e w2 ⟨rfl, ⟨oa, c, rfl, hnc, hS⟩, hb⟩
      have hG2 : Below w.heap.size w w2 := Below.trans hG hb
      clear hb OWN hG
      have HS : Hid (StrsAt w2 oa n fun i => F (n - 1 - i)) := hS
      clear hS
      go_wp2_with fail
      refine (join_any _ _ _ _ _ HS.out hnc hl).mono ?_
      rintro e w3 ⟨rfl, hb⟩
      have hG3 := Grew.trans hG2 hb
      go_wp2
      go_ret
      exact ⟨rfl, hG3⟩
end Go.Proofs.YtonmancgalencaaGreatDoor
namespace Go.Proofs.YtonmancgalencaaGreatDoor
open Go.RowKit Go.Extern
set_option linter.unusedVariables false
set_option linter.unusedSimpArgs false

set_option maxRecDepth 100000 in
set_option maxHeartbeats 4000000 in
theorem left_nil (w : World) :
    Calls Tryz.prog 43 #[.pointer none] w fun e w' => e = .returned (.int .i64 0) ∧ w' = w := by
  go_enter Tryz.func43, Tryz.ntmps43
  go_wp2
  go_ret
  exact ⟨rfl, rfl⟩
set_option maxRecDepth 100000 in
set_option maxHeartbeats 4000000 in
theorem fail_nil (v : Value) (w : World) :
    Calls Tryz.prog 42 #[.pointer none, v] w fun e w' => e = .returned (.tuple #[]) ∧ w' = w := by
  go_enter Tryz.func42, Tryz.ntmps42
  go_wp2
  go_end0
  exact ⟨rfl, rfl⟩
set_option maxRecDepth 100000 in
set_option maxHeartbeats 4000000 in
theorem take_nil (n : Int) (w : World) :
    Calls Tryz.prog 83 #[.pointer none, .int .i64 n] w fun e w' => e = .returned (.string ⟨#[]⟩) ∧ w' = w := by
  go_enter Tryz.func83, Tryz.ntmps83
  go_wp2_with fail
  refine (left_nil _).mono ?_
  rintro e w' ⟨rfl, rfl⟩
  by_cases hn : 0 < n
  · go_wp2_with fail
    refine (fail_nil _ _).mono ?_
    rintro e w' ⟨rfl, rfl⟩
    go_wp2
    go_ret
    exact ⟨rfl, rfl⟩
  · go_wp2
    go_ret
    exact ⟨rfl, rfl⟩
end Go.Proofs.YtonmancgalencaaGreatDoor
namespace Go.Proofs.YtonmancgalencaaGreatDoor
open Go.RowKit Go.Extern
set_option linter.unusedVariables false
set_option linter.unusedSimpArgs false

/-- the number of the first k bytes -/
def beK (T : ByteArray) : Nat → Int
  | 0 => 0
  | k + 1 => beK T k * 256 + byteAt T k
theorem byteAt_b (T : ByteArray) (k : Nat) : 0 ≤ byteAt T k ∧ byteAt T k < 256 := by
  unfold byteAt
  split
  · have := UInt8.toNat_lt (T[k])
    omega
  · omega
theorem beK_b (T : ByteArray) : ∀ k, 0 ≤ beK T k ∧ beK T k < 256 ^ k
  | 0 => by simp [beK]
  | k + 1 => by
    have h := beK_b T k
    have hb := byteAt_b T k
    rw [Int.pow_succ]
    unfold beK
    omega
theorem pow_small : ∀ k : Fin 8, (256 : Int) ^ k.val ≤ 72057594037927936 := by decide +kernel
theorem or_comm64 (a b : Int) : bits .or .u64 a b = bits .or .u64 b a := by unfold bits; simp only [BitVec.or_comm]
theorem beK_or (T : ByteArray) (k : Nat) (hk : k < 8) : bits .or .u64 (IntKind.u64.wrap (beK T k * 256)) (IntKind.u64.wrap (byteAt T k)) = beK T (k + 1) := by
  have h := beK_b T k
  have hb := byteAt_b T k
  have h7 := pow_small ⟨k, hk⟩
  simp only at h7
  have w1 : IntKind.u64.wrap (beK T k * 256) = beK T k * 256 := by rw [IntKind.wrap_u64]; omega
  have w2 : IntKind.u64.wrap (byteAt T k) = byteAt T k := by rw [IntKind.wrap_u64]; omega
  rw [w1, w2, or_comm64, or_add 8 _ _ hb.1 (by omega) (by omega) (by omega) (by omega) (by omega)]
  show _ = beK T k * 256 + byteAt T k
  omega
set_option maxRecDepth 100000 in
set_option maxHeartbeats 4000000 in
theorem rnum_any (size : Int) (v : Value) (T : ByteArray) (w W2 : World) (hT : Calls Tryz.prog 83 #[v, .int .i64 (min (max size 0) 8)] w fun e w' => e = .returned (.string T) ∧ w' = W2) (h8 : T.size ≤ 8) :
    Calls Tryz.prog 36 #[v, .int .i64 size] w fun e w' => e = .returned (.int .u64 (beK T T.size)) ∧ Below W2.heap.size W2 w' := by
  go_enter Tryz.func36, Tryz.ntmps36
  go_wp2_with fail
  refine (width_any _ _).mono ?_
  rintro e w' ⟨rfl, rfl⟩
  go_wp2_with fail
  refine hT.mono ?_
  rintro e w' ⟨rfl, rfl⟩
  clear hT
  go_wp2_with fail
  have fT : objAt ((w'.alloc (.cells (ints .u8 (lenB w' T) (byteAt T)) 5 (lenB w' T, lenB w' T + 1))).drew) w'.heap.size = some (.cells (ints .u8 (lenB w' T) (byteAt T)) 5 (lenB w' T, lenB w' T + 1)) := objAt_alloc_at _ _ _ rfl
  have hG : Below w'.heap.size w' ((w'.alloc (.cells (ints .u8 (lenB w' T) (byteAt T)) 5 (lenB w' T, lenB w' T + 1))).drew) := Grew.drewN (Grew.alloc (Grew.refl _) _) 1
  generalize (w'.alloc (.cells (ints .u8 (lenB w' T) (byteAt T)) 5 (lenB w' T, lenB w' T + 1))).drew = W3 at *
  have hlb := lenB_le w' T
  go_loopw [5, 7, 14] (fun n _ i wr => ∃ k : Nat, k ≤ T.size ∧ i = .int .i64 k ∧ n = .int .u64 (beK T k) ∧ wr = W3) (fun _ _ i _ => T.size - (intOf i).toNat)
  case atStart => exact ⟨0, by omega, rfl, rfl, rfl⟩
  case round =>
    obtain ⟨k, hk, rfl, rfl, rfl⟩ := hrel
    have lf := lt_of_objAt fT
    by_cases hlt : k < T.size
    · have hlt' : (k : Int) < (T.size : Int) := by omega
      have hk2 : k < lenB w' T := by omega
      have ho := beK_or T k (by omega)
      go_wp2
      go_roundw
      case rel => exact ⟨k + 1, by omega, by go_num, rfl, trivial⟩
      case measure => simp [intOf]; omega
    · obtain rfl : k = T.size := by omega
      go_wp2
      go_ret
      exact ⟨rfl, hG⟩
theorem below_setRow {B : Nat} {a w : World} (h : Below B a w) (g : Nat) (cs : Array Value) (hg : B ≤ g) : Below B a (w.setRow g cs) :=
  h.trans ⟨rfl, rfl, rfl, by rw [size_setRow']; exact Nat.le_refl _, fun k hk => by
    unfold World.setRow
    simp only [Array.getElem?_modify]
    rw [if_neg (by omega)]⟩
@[go_sem] theorem copyOf_first (ty : TypeId) (g C : Nat) (s : ByteArray) (w : World) (A : Nat → Int) (t : TypeId) (h : objAt w g = some (.cells (ints .u8 32 A) t (0, 0))) (hs : s.size ≤ 32) :
    copyOf Tryz.prog ty g 0 32 C s w (some (.cells (ints .u8 32 A) t (0, 0))) = .ok (.value (.int .i64 s.size)) (w.setRow g (ints .u8 32 (putT A 0 s.size s))) := by
  unfold copyOf copyNext
  unfold objAt at h
  have hm : Nat.min s.size 32 = s.size := Nat.min_eq_left hs
  have hr := run_copy_text (P := Tryz.prog) w 143 9 ty 5 g 0 32 C s.size s _ t Tryz.underlying143 (by kernel_rfl) h hm (by rw [ints_size]; omega)
  have l2 : (List.map (fun b : UInt8 => Value.int .u8 b.toNat) s.data.toList).length = s.size := by
    rw [List.length_map]
    rfl
  have e : ((ints .u8 32 A).toList.take 0 ++ (List.map (fun b : UInt8 => Value.int .u8 b.toNat) s.data.toList).take s.size ++ (ints .u8 32 A).toList.drop (0 + s.size)).toArray = ints .u8 32 (putT A 0 s.size s) := by
    rw [List.take_zero, List.nil_append, List.take_of_length_le (by omega), Nat.zero_add]
    apply Array.ext_getElem?
    intro i
    by_cases hi : i < 32
    · rw [ints_get _ _ _ _ hi, List.getElem?_toArray]
      by_cases h3 : i < s.size
      · rw [List.getElem?_append_left (by omega), List.getElem?_map]
        have h4 : s.data.toList[i]? = some s[i] := by
          rw [Array.getElem?_toList]
          exact Array.getElem?_eq_getElem h3
        rw [h4]
        unfold putT
        rw [if_pos ⟨Nat.zero_le _, by omega⟩, Nat.sub_zero, ← byteAt_lt s i h3]
        rfl
      · rw [List.getElem?_append_right (by omega), l2, List.getElem?_drop, Array.getElem?_toList, show s.size + (i - s.size) = i by omega, ints_get _ _ _ _ hi]
        unfold putT
        rw [if_neg (by omega)]
    · have r1 : (ints .u8 32 (putT A 0 s.size s))[i]? = none := Array.getElem?_eq_none (by rw [ints_size]; omega)
      rw [r1, List.getElem?_toArray, List.getElem?_eq_none (by rw [List.length_append, l2, List.length_drop, Array.length_toList, ints_size]; omega)]
  simp only [Sem.run_bind, hr, Result.andThen_ok, Sem.run_pure, e]
  rfl
set_option maxRecDepth 100000 in
set_option maxHeartbeats 4000000 in
theorem rkey_any (v : Value) (T : ByteArray) (w : World) (f : World → World) (hf : ∀ W m o, w.heap.size ≤ m → objAt W m = some o → objAt (f W) m = some o) (hfs : ∀ W, (f W).heap.size = W.heap.size) (hT : ∀ W, Below w.heap.size w W → Calls Tryz.prog 83 #[v, .int .i64 (32)] W fun e w' => e = .returned (.string T) ∧ w' = f W) (h8 : T.size ≤ 32) :
    Calls Tryz.prog 38 #[v] w fun e w' => e = .returned (.agg (ints .u8 32 (putT nought 0 T.size T))) ∧ ∃ W1, Below w.heap.size w W1 ∧ Below w.heap.size (f W1) w' := by
  go_enter Tryz.func38, Tryz.ntmps38
  go_wp2_with fail
  have f3 : objAt ((w.alloc (.cells (ints .u8 32 nought) 24)).alloc (.cells (ints .u8 32 nought) 24)) (w.heap.size + 1) = some (.cells (ints .u8 32 nought) 24) := objAt_alloc_at _ _ _ (by simp)
  have f2 : objAt ((w.alloc (.cells (ints .u8 32 nought) 24)).alloc (.cells (ints .u8 32 nought) 24)) w.heap.size = some (.cells (ints .u8 32 nought) 24) := keep_alloc _ (objAt_alloc_at _ _ _ rfl)
  have hG : Below w.heap.size w ((w.alloc (.cells (ints .u8 32 nought) 24)).alloc (.cells (ints .u8 32 nought) 24)) := Grew.alloc (Grew.alloc (Grew.refl _) _) _
  generalize (w.alloc (.cells (ints .u8 32 nought) 24)).alloc (.cells (ints .u8 32 nought) 24) = w3 at *
  refine wp_region_any (by kernel_rfl) ?_
  rw [show ({ w3 with drawn := w3.drawn + 1 } : World) = more w3 ⟨w3.drawn + 1, #[]⟩ from by simp [more]]
  generalize (⟨w3.drawn + 1, #[]⟩ : More) = m8
  have f2m := keep_more m8 f2
  have f3m := keep_more m8 f3
  refine tail_two (i := 0) (j := 1) (fuel := 3) (by kernel_rfl) rfl rfl ?_ ?_
  · intro K hK
    go_simp
    refine hK _ _ ?_
    clear hK K
    refine tail_one (i := 1) (fuel := 2) (by kernel_rfl) rfl ?_
    intro K hK
    go_simp
    refine hK _ _ ?_
    clear hK K
    refine tail_one (i := 2) (fuel := 1) (by kernel_rfl) rfl ?_
    intro K hK
    go_simp
    refine (hT _ (Grew.more hG m8)).mono ?_
    rintro e9 w9 ⟨rfl, rfl⟩
    have f3f := hf _ _ _ (Nat.le_succ _) f3m
    have f2f := hf _ _ _ (Nat.le_refl _) f2m
    refine hK _ _ ?_
    clear hK K
    refine tail_one (i := 3) (fuel := 0) (by kernel_rfl) rfl ?_
    intro K hK
    go_simp
    refine hK _ _ ?_
    clear hK K
    refine wpAny_done (by kernel_rfl) ?_ _
    go_wp2
    refine ret_row rfl _ 24 _ (0, 0) _ rfl (objAt_setRow_eq _ ((objAt_setRow_ne _ _ _ _ (by omega)).trans f2f)) Tryz.underlying24 rfl (by rw [ints_size]; kernel_rfl) rfl ⟨rfl, _, Grew.more hG m8, below_setRow (below_setRow (Below.refl _ _) _ _ (Nat.le_succ _)) _ _ (Nat.le_refl _)⟩
  · intro K hK
    go_simp
    refine hK _ _ ?_
    clear hK K
    refine tail_two (i := 0) (j := 2) (fuel := 2) (by kernel_rfl) rfl rfl ?_ ?_
    · intro K hK
      go_simp
      refine hK _ _ ?_
      clear hK K
      refine tail_one (i := 2) (fuel := 1) (by kernel_rfl) rfl ?_
      intro K hK
      go_simp
      refine (hT _ (Grew.more hG m8)).mono ?_
      rintro e9 w9 ⟨rfl, rfl⟩
      have f3f := hf _ _ _ (Nat.le_succ _) f3m
      have f2f := hf _ _ _ (Nat.le_refl _) f2m
      refine hK _ _ ?_
      clear hK K
      refine tail_one (i := 3) (fuel := 0) (by kernel_rfl) rfl ?_
      intro K hK
      go_simp
      refine hK _ _ ?_
      clear hK K
      refine wpAny_done (by kernel_rfl) ?_ _
      go_wp2
      refine ret_row rfl _ 24 _ (0, 0) _ rfl (objAt_setRow_eq _ ((objAt_setRow_ne _ _ _ _ (by omega)).trans f2f)) Tryz.underlying24 rfl (by rw [ints_size]; kernel_rfl) rfl ⟨rfl, _, Grew.more hG m8, below_setRow (below_setRow (Below.refl _ _) _ _ (Nat.le_succ _)) _ _ (Nat.le_refl _)⟩
    · intro K hK
      go_simp
      refine (hT _ (Grew.more hG m8)).mono ?_
      rintro e9 w9 ⟨rfl, rfl⟩
      have f3f := hf _ _ _ (Nat.le_succ _) f3m
      have f2f := hf _ _ _ (Nat.le_refl _) f2m
      refine hK _ _ ?_
      clear hK K
      refine tail_one (i := 0) (fuel := 1) (by kernel_rfl) rfl ?_
      intro K hK
      go_simp
      refine hK _ _ ?_
      clear hK K
      refine tail_one (i := 3) (fuel := 0) (by kernel_rfl) rfl ?_
      intro K hK
      go_simp
      refine hK _ _ ?_
      clear hK K
      refine wpAny_done (by kernel_rfl) ?_ _
      go_wp2
      refine ret_row rfl _ 24 _ (0, 0) _ rfl (objAt_setRow_eq _ ((objAt_setRow_ne _ _ _ _ (by omega)).trans f2f)) Tryz.underlying24 rfl (by rw [ints_size]; kernel_rfl) rfl ⟨rfl, _, Grew.more hG m8, below_setRow (below_setRow (Below.refl _ _) _ _ (Nat.le_succ _)) _ _ (Nat.le_refl _)⟩
set_option maxRecDepth 100000 in
set_option maxHeartbeats 4000000 in
theorem rkeys_nil (n : Int) (w : World) :
    Calls Tryz.prog 41 #[.pointer none, .int .i64 n] w fun e w' => e = .returned (.slice none 0 0) ∧ w' = w := by
  go_enter Tryz.func41, Tryz.ntmps41
  go_wp2_with fail
  refine (left_nil _).mono ?_
  rintro e w' ⟨rfl, rfl⟩
  go_wp2_with fail
  refine (take_nil _ _).mono ?_
  rintro e w' ⟨rfl, rfl⟩
  go_wp2_with fail
  go_loopw [5, 6] (fun s v wr => s = .string ⟨#[]⟩ ∧ v = .slice none 0 0 ∧ wr = w') (fun _ _ _ => 0)
  case atStart => exact ⟨rfl, rfl, rfl⟩
  case round =>
    obtain ⟨rfl, rfl, rfl⟩ := hrel
    go_wp2
    go_ret
    exact ⟨rfl, rfl⟩
set_option maxRecDepth 100000 in
set_option maxHeartbeats 4000000 in
theorem rend_nil (w : World) :
    Calls Tryz.prog 44 #[.pointer none] w fun e w' => e = .returned (.iface 61 (.pointer (some ⟨w.heap.size, 0, none⟩))) ∧ w' = w.alloc (.cells #[.string ⟨#[114, 101, 97, 100, 101, 114]⟩, .iface 48 (.int .i64 20)] 64) := by
  go_enter Tryz.func44, Tryz.ntmps44
  go_wp2_with fail
  refine (wrap_any _ _ _ _).mono ?_
  rintro e w' ⟨rfl, rfl⟩
  go_wp2
  go_ret
  exact ⟨rfl, rfl⟩
set_option maxRecDepth 100000 in
set_option maxHeartbeats 4000000 in
theorem rover_any (s : ByteArray) (w : World) :
    Calls Tryz.prog 34 #[.string s] w fun e w' => e = .returned (.pointer (some ⟨w.heap.size, 0, none⟩)) ∧ w' = w.alloc (.cells #[.string s, .nilIface] 151) := by
  go_enter Tryz.func34, Tryz.ntmps34
  go_wp2
  go_ret
  exact ⟨rfl, rfl⟩
set_option maxRecDepth 100000 in
set_option maxHeartbeats 4000000 in
theorem rend_clean (g : Nat) (w : World) (hg : objAt w g = some (.cells #[.string ⟨#[]⟩, .nilIface] 151)) :
    Calls Tryz.prog 44 #[.pointer (some ⟨g, 0, none⟩)] w fun e w' => e = .returned (.nilIface) ∧ w' = w := by
  go_enter Tryz.func44, Tryz.ntmps44
  have lg := lt_of_objAt hg
  go_wp2
  go_ret
  exact ⟨rfl, rfl⟩
end Go.Proofs.YtonmancgalencaaGreatDoor
namespace Go.Proofs.YtonmancgalencaaGreatDoor
open Go.RowKit Go.Extern
set_option linter.unusedVariables false
set_option linter.unusedSimpArgs false

theorem two_text : numB (min (max (2 : Int) 0) 8).toNat 258 = ⟨#[1, 2]⟩ := by decide +kernel
set_option maxRecDepth 100000 in
set_option maxHeartbeats 4000000 in
theorem rnum_nil (size : Int) (w : World) :
    Calls Tryz.prog 36 #[.pointer none, .int .i64 size] w fun e w' => e = .returned (.int .u64 0) ∧ Below w.heap.size w w' := by
  exact rnum_any size (.pointer none) ⟨#[]⟩ w w (take_nil _ _) (by decide)
set_option maxRecDepth 100000 in
set_option maxHeartbeats 4000000 in
theorem rkey_nil (w : World) :
    Calls Tryz.prog 38 #[.pointer none] w fun e w' => e = .returned (.agg (ints .u8 32 (nought))) ∧ Below w.heap.size w w' := by
  refine (rkey_any (.pointer none) ⟨#[]⟩ w id (fun W m o _ h => h) (fun W => rfl) (fun W _ => take_nil _ _) (by decide)).mono ?_
  rintro e w' ⟨rfl, W1, h1, h2⟩
  refine ⟨?_, Below.trans h1 h2⟩
  rw [show ints .u8 32 (putT nought 0 (ByteArray.size ⟨#[]⟩) ⟨#[]⟩) = ints .u8 32 nought from ints_congr fun i hi => by
    unfold putT
    rw [if_neg (by have : ByteArray.size ⟨#[]⟩ = 0 := rfl; omega)]]
set_option maxRecDepth 100000 in
set_option maxHeartbeats 4000000 in
theorem Awake15_any (aw : ∀ W : World, Tabs W → EtAt W → Calls Tryz.prog 21 #[] W fun e w' => e = .returned (.bool true) ∧ Below W.heap.size W w') (w : World) (hT : Tabs w) (hE : EtAt w) :
    Calls Tryz.prog 81 #[] w fun e w' => e = .returned (.bool true) ∧ Below w.heap.size w w' := by
  go_enter Tryz.func81, Tryz.ntmps81
  go_wp2_with fail
  refine (aw _ hT hE).mono ?_
  rintro e w2 ⟨rfl, hb⟩
  go_wp2
  go_ret
  exact ⟨rfl, hb⟩
set_option maxRecDepth 100000 in
set_option maxHeartbeats 4000000 in
theorem awake16_any (aw : ∀ W : World, Tabs W → EtAt W → Calls Tryz.prog 81 #[] W fun e w' => e = .returned (.bool true) ∧ Below W.heap.size W w') (w : World) (hT : Tabs w) (hE : EtAt w) :
    Calls Tryz.prog 33 #[] w fun e w' => e = .returned (.bool true) ∧ Below w.heap.size w w' := by
  go_enter Tryz.func33, Tryz.ntmps33
  go_wp2_with fail
  have hG0 : Below w.heap.size w (w.alloc (.cells #[.pointer none] 92)) := Grew.alloc (Grew.refl _) _
  have fw : objAt (w.alloc (.cells #[.pointer none] 92)) w.heap.size = some (.cells #[.pointer none] 92) := objAt_alloc_at _ _ _ rfl
  generalize w.alloc (.cells #[.pointer none] 92) = w1 at *
  refine (aw _ (hT.later hG0) (hE.later hG0)).mono ?_
  rintro e w2 ⟨rfl, hb⟩
  have hG := Grew.trans hG0 hb
  have fw2 := keep_below hb fw
  have lw2 := lt_of_objAt fw2
  clear hT hE aw hG0 hb fw
  go_wp2_with fail
  refine (wnum_any 2 258 none _ (by decide) (by decide)).mono ?_
  rintro e w3 ⟨g, rfl, fg, hb⟩
  rw [two_text] at fg
  have hG3 := Grew.trans hG hb
  have fw3 := keep_below hb fw2
  have lw3 := lt_of_objAt fw3
  clear hG hb fw2 lw2
  have hc : Hid (Pcs w3 (segN (fun _ => ⟨#[1, 2]⟩) 0 1) (.pointer (some ⟨g, 0, none⟩))) := ⟨g, _, rfl, fg, rfl⟩
  clear fg
  go_wp2_with fail
  refine (wtext_any _ _ _ _ hc.out (by decide) (by decide)).mono ?_
  rintro e w4 ⟨rfl, hb⟩
  have hG4 := Grew.trans hG3 hb
  rw [show catS (fun i => (fun _ => (⟨#[1, 2]⟩ : ByteArray)) (1 - 1 - i)) 1 = ⟨#[1, 2]⟩ by decide +kernel]
  go_wp2
  go_ret
  exact ⟨rfl, hG4⟩
set_option maxRecDepth 100000 in
set_option maxHeartbeats 4000000 in
theorem codecNone_any (aw : ∀ W : World, Tabs W → EtAt W → Calls Tryz.prog 33 #[] W fun e w' => e = .returned (.bool true) ∧ Below W.heap.size W w') (w : World) (hT : Tabs w) (hE : EtAt w) :
    Calls Tryz.prog 8 #[] w fun e w' => e = .returned (.bool true) ∧ Below w.heap.size w w' := by
  go_enter Tryz.func8, Tryz.ntmps8
  go_wp2_with fail
  refine (fail_nil _ _).mono ?_
  rintro e w ⟨rfl, rfl⟩
  go_wp2_with fail
  refine (aw _ hT hE).mono ?_
  rintro e w2 ⟨rfl, hG⟩
  clear hT hE aw
  go_wp2_with fail
  refine (rnum_nil _ _).mono ?_
  rintro e w3 ⟨rfl, hb⟩
  replace hG := Grew.trans hG hb
  clear hb
  go_wp2_with fail
  refine (rkey_nil _).mono ?_
  rintro e w4 ⟨rfl, hb⟩
  replace hG := Grew.trans hG hb
  clear hb
  go_wp2_with fail
  refine (rkeys_nil _ _).mono ?_
  rintro e w5 ⟨rfl, rfl⟩
  go_wp2_with fail
  refine (left_nil _).mono ?_
  rintro e w6 ⟨rfl, rfl⟩
  go_wp2_with fail
  refine (rend_nil _).mono ?_
  rintro e w7 ⟨rfl, rfl⟩
  have hc : Hid (Chn (w6.alloc (.cells #[.string ⟨#[114, 101, 97, 100, 101, 114]⟩, .iface 48 (.int .i64 20)] 64)) [⟨#[114, 101, 97, 100, 101, 114]⟩] (.iface 48 (.int .i64 20)) (.iface 61 (.pointer (some ⟨w6.heap.size, 0, none⟩)))) := ⟨_, _, rfl, objAt_alloc_at _ _ _ rfl, rfl⟩
  have hG7 : Below w.heap.size w (w6.alloc (.cells #[.string ⟨#[114, 101, 97, 100, 101, 114]⟩, .iface 48 (.int .i64 20)] 64)) := Grew.alloc hG _
  generalize w6.alloc (.cells #[.string ⟨#[114, 101, 97, 100, 101, 114]⟩, .iface 48 (.int .i64 20)] 64) = w7 at *
  go_wp2_with fail
  refine (Is_e 20 20 _ _ _ hc.out).mono ?_
  rintro e w8 ⟨rfl, rfl⟩
  go_wp2_with fail
  refine (rover_any _ _).mono ?_
  rintro e w9 ⟨rfl, rfl⟩
  have fr : objAt (w8.alloc (.cells #[.string ⟨#[]⟩, .nilIface] 151)) w8.heap.size = some (.cells #[.string ⟨#[]⟩, .nilIface] 151) := objAt_alloc_at _ _ _ rfl
  go_wp2_with fail
  refine (rend_clean _ _ fr).mono ?_
  rintro e w10 ⟨rfl, rfl⟩
  go_wp2
  go_ret
  exact ⟨rfl, Grew.alloc hG7 _⟩
end Go.Proofs.YtonmancgalencaaGreatDoor
namespace Go.Proofs.YtonmancgalencaaGreatDoor
open Go.ChangeShapes Go.WideShapes Go.ChangeAt Go.RowKit
open Go.ChangeMaps (open_string shut_string)
set_option linter.unusedVariables false
set_option linter.unusedSimpArgs false

set_option maxRecDepth 100000 in
theorem codecNone_lifted (os : Os) (started : os.Started) (H : Type) (enc : TypeId × Value → H) :
    ReturnsInHanded {} Tryz.checked os 8 .any (fun w args => (Rows.codecNoneSpec.pre enc Tryz.prog Tryz.f8 [] false w args ∧ laidMetH Tryz.prog Rows.codecNoneRow.laid w) ∧ sizedMet enc Tryz.prog Tryz.f8 (OpenSpec.ofChange Rows.codecNoneSpec) false w args)
      (Rows.codecNoneSpec.post enc Tryz.prog Tryz.f8 false true false false) := by
  refine returnsInHanded_of_change_and (C := Tryz.checked) (X := fun w _ => laidMetH Tryz.prog Rows.codecNoneRow.laid w) (fun _ _ _ hh h => h.of_heap hh) own started (by kernel_rfl) Tryz.func8
    (ChangeSpec.witness_shaped (enc := enc) (C := Tryz.checked) (os := os) (X := fun w _ => laidMetH Tryz.prog Rows.codecNoneRow.laid w) false (hwL os) #[] 8 (hwL_os os)
      (World.shaped_of_ZipB (by kernel_rfl) (by kernel_rfl)) (by kernel_rfl) (by kernel_rfl) (by kernel_rfl)
      (hwL_met os _)) ?_
  intro W base args ds gs before hval0 hW _ _ hL _
  have hval : ∀ (j : Nat) t v, Tryz.f8.params[j]? = some t → args[j]? = some v → Value.okWide Tryz.prog W .any base t v := hval0
  have hW' := hW
  obtain ⟨p, q, hA0, hV, rfl, hfz, hnd⟩ := hW
  have hA : DataW.TrodAll enc Tryz.prog W 0 (fun _ => true) true Tryz.f8.params.toList args.toList ds p := hA0
  rw [Tryz.params8] at hA hval
  obtain ⟨hargs, rfl, rfl⟩ := trodAll_nil hA
  obtain rfl : args = #[] := by cases args; simp_all
  obtain ⟨rfl, rfl⟩ := trodVars_none hV
  clear hA0 hval0
  obtain ⟨hT, hE⟩ := laid3_of hL
  refine (codecNone_any (fun W h hE => awake16_any (fun W h hE => Awake15_any (fun W h hE => awake15_any (fun W h => Awake14_any (fun W h => awake14_any (fun W h => Awake13_any (fun W h => awake13_any (fun W h => Awake12_any aw12 W h) W h) W h) W h) W h) W h hE) W h hE) W h hE) W hT hE).mono fun e W' ⟨he, bel⟩ => ?_
  subst he
  exact ⟨_, rfl, _, _, _, [], _, [], hW', trodAll_mk1 (shut_bool Tryz.underlying4 _), trodAll_mk0, rfl, bel.frame _, fun h => by cases h⟩
set_option maxRecDepth 100000 in
theorem codecNone_closed : joinedFacts Tryz.prog 8 Tryz.f8 (Rows.codecNoneSpec) Rows.codecNoneRow = true := by
  first
  | (unfold joinedFacts; rw [may_enter, make_is, lifts_is]; first | (rw [norec 8 (by decide)]; kernel_rfl) | kernel_rfl)
  | kernel_rfl
set_option maxRecDepth 100000 in
theorem codecNone_said : Rows.CodecNoneSaid :=
  OpenClaim.holds_of_wide 8 Tryz.f8 rfl rfl rfl rfl rfl rfl rfl ⟨rfl, rfl, rfl, rfl, rfl⟩ rfl rfl rfl rfl rfl (by kernel_rfl) Tryz.func8 (by first | exact codecNone_closed | kernel_rfl)
    (of_decide_eq_true (by kernel_rfl)) (by unfold Func.isWrapper; first | (rw [if_pos (by decide +kernel)]; kernel_rfl) | (rw [if_neg (by decide +kernel)]; exact ⟨rfl, rfl⟩))
    (fun os started H enc _ => codecNone_lifted os started H enc)
theorem codecNone_card : Rows.CodecNoneCardSaid :=
  Claim7.holds_tied_plain_at .later [] _ _ _ _ codecNone_said (fun _ h => by cases h) (by kernel_rfl) (fun _ h => by cases h) codecNone_row_tie rfl ⟨rfl, rfl⟩ (by kernel_rfl) rfl
    (fun f fn hf hfn => by
      obtain rfl : f = 8 := Option.some.inj ((show Tryz.prog.funcNamed "sapwood/sapwoodlaw16.CodecNone" = some 8 by kernel_rfl).symm.trans hf) |>.symm
      obtain rfl : fn = Tryz.f8 := (Option.some.inj (Tryz.func8.symm.trans hfn)).symm
      exact ⟨by kernel_rfl, fun j t ht => by
        rw [Tryz.params8] at ht
        simp at ht⟩)
    (by kernel_rfl)
end Go.Proofs.YtonmancgalencaaGreatDoor
