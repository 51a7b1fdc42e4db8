/- errors.As at the refusals of chapter 7: errors of empty structs, by their own types. -/
import Derived.Test.YtcdddngdjhjdbaaDoorLaidN
import Derived.Test.YtcdddngdjhjdbaaDoorRows
import Derived.Test.YtcdddngdjhjdbaaDoorAgg
import Derived.WalkKit
import Derived.LaidEql
import Derived.Stop.Asserts
import Derived.Stop.IfaceNil
import Derived.RowKitTokens
import Derived.LaidLaws
import Derived.LaidHandle
namespace Go.Proofs.YtcdddngdjhjdbaaDoor
open Go.RowKit Go.Extern.Stop Go.Stop Go.Extern

theorem rlmA (z : Sem Value) (f : TypeId → Addr → Nat → Nat → Sem Value) (v : Value) :
    ReflectliteValue.method z f #[v] = (do match ← ReflectliteValue.parts v with | none => z | some (t, a, fl) => f t a fl (fl % 32)) := rfl
theorem rlsA (v x : Value) : ReflectliteValue.set #[v, x] = (do
    let (some (dst, a, fl), some (src, b, _)) := (← ReflectliteValue.parts v, ← ReflectliteValue.parts x)
      | unsupported (.noEntry "extern/(internal/reflectlite.Value).Set.zeroValue")
    if fl / ReflectliteValue.flagAddr % 2 == 0 then unsupported (.noEntry "extern/(internal/reflectlite.Value).Set.unaddressable")
    let val ← loadVar src b
    if ← Rtype.directlyAssignable dst src then storeVar dst a val
    else if ← Rtype.implements dst src then
      if (← Rtype.kind src) == 20 then
        match val with
        | .nilIface => unsupported (.noEntry "extern/reflectlite: a nil value of one interface type handed on as a value of another")
        | _ => storeVar dst a val
      else storeVar dst a (.iface src val)
    else panicString ("reflectlite.Set: value of type " ++ (← Rtype.spelt src) ++ " is not assignable to type " ++ (← Rtype.spelt dst))
    pure (.tuple #[])) := rfl
theorem asMethodKind (h : Value) (w : World) : (Go.method 292 222 (.agg #[h]) "Kind").run Tryd.prog w = .ok (189, h) w := by kernel_rfl
theorem asMethodElem (h : Value) (w : World) : (Go.method 292 222 (.agg #[h]) "Elem").run Tryd.prog w = .ok (207, .agg #[h]) w := by kernel_rfl
theorem asMethodImplements (h : Value) (w : World) : (Go.method 292 222 (.agg #[h]) "Implements").run Tryd.prog w = .ok (208, .agg #[h]) w := by kernel_rfl
theorem asMethodAssignableTo (h : Value) (w : World) : (Go.method 292 222 (.agg #[h]) "AssignableTo").run Tryd.prog w = .ok (205, .agg #[h]) w := by kernel_rfl

theorem asValueOfPV (t : Addr) (w : World) : (ReflectliteValue.unpack (.iface 137 (.pointer (some t)))).run Tryd.prog w
    = .ok (.agg #[.pointer (some ⟨10, 137, none⟩), .pointer (some ⟨w.heap.size, 0, none⟩), .int .u64 150]) (w.alloc (.cells #[.pointer (some t)] 137)) := by kernel_rfl
theorem asTypePV (a : Addr) (w : World) : (ReflectliteValue.methodAny (ReflectliteValue.valueError "reflectlite.Value.Type" 0) (fun t _ _ _ => ReflectliteType.toType t) #[.agg #[.pointer (some ⟨10, 137, none⟩), .pointer (some a), .int .u64 150]]).run Tryd.prog w
    = .ok (.iface 222 (.agg #[.pointer (some ⟨10, 137, none⟩)])) w := by kernel_rfl
theorem asKindPV (w : World) : ((ReflectliteType.abiMethod fun t => (fun a : Nat => Value.int IntKind.u8 (a : Int)) <$> Rtype.kind t) #[.pointer (some ⟨10, 137, none⟩)]).run Tryd.prog w = .ok (.int .u8 22) w := by kernel_rfl
theorem asKindEV (w : World) : ((ReflectliteType.abiMethod fun t => (fun a : Nat => Value.int IntKind.u8 (a : Int)) <$> Rtype.kind t) #[.pointer (some ⟨10, 133, none⟩)]).run Tryd.prog w = .ok (.int .u8 25) w := by kernel_rfl
theorem asPartsPV (a : Addr) (w : World) : (ReflectliteValue.parts (.agg #[.pointer (some ⟨10, 137, none⟩), .pointer (some a), .int .u64 150])).run Tryd.prog w = .ok (some (137, a, 150)) w := by kernel_rfl
theorem asIsNilPV (a p : Addr) (W : World) (ha : W.cell? a = some (.pointer (some p))) :
    (ReflectliteValue.method (ReflectliteValue.valueError "reflectlite.Value.IsNil" 0) ReflectliteValue.isNil #[.agg #[.pointer (some ⟨10, 137, none⟩), .pointer (some a), .int .u64 150]]).run Tryd.prog W = .ok (.bool false) W := by
  rw [rlmA]
  simp only [Sem.run_bind, asPartsPV, Result.andThen]
  simp [ReflectliteValue.isNil, loadVar, isAgg, underlying, Tryd.underlying137, ha, Result.andThen]
theorem asElemPV (w : World) : (ReflectliteType.method ReflectliteType.elem #[.agg #[.pointer (some ⟨10, 137, none⟩)]]).run Tryd.prog w = .ok (.iface 222 (.agg #[.pointer (some ⟨10, 133, none⟩)])) w := by kernel_rfl
theorem asImplEV (w : World) : (ReflectliteType.relation "Implements" ReflectliteType.implements_ #[.agg #[.pointer (some ⟨10, 133, none⟩)], .iface 222 (.agg #[.pointer (some ⟨10, 83, none⟩)])]).run Tryd.prog w = .ok (.bool true) w := by kernel_rfl
theorem asElemOfPV (w : World) : (Rtype.elem? 137).run Tryd.prog w = .ok (some 133) w := by kernel_rfl
theorem asMkEV (p : Addr) (w : World) : (ReflectliteValue.mk 133 p ReflectliteValue.flagAddr).run Tryd.prog w = .ok (.agg #[.pointer (some ⟨10, 133, none⟩), .pointer (some p), .int .u64 409]) w := by kernel_rfl
theorem asElemVV (a p : Addr) (W : World) (ha : W.cell? a = some (.pointer (some p))) :
    (ReflectliteValue.method (ReflectliteValue.valueError "reflectlite.Value.Elem" 0) ReflectliteValue.elem #[.agg #[.pointer (some ⟨10, 137, none⟩), .pointer (some a), .int .u64 150]]).run Tryd.prog W
      = .ok (.agg #[.pointer (some ⟨10, 133, none⟩), .pointer (some p), .int .u64 409]) W := by
  rw [rlmA]
  simp only [Sem.run_bind, asPartsPV, Result.andThen]
  simp [ReflectliteValue.elem, loadVar, isAgg, underlying, Tryd.underlying137, ha, Result.andThen, asElemOfPV, asMkEV]
theorem asPartsEaV (a : Addr) (w : World) : (ReflectliteValue.parts (.agg #[.pointer (some ⟨10, 133, none⟩), .pointer (some a), .int .u64 409])).run Tryd.prog w = .ok (some (133, a, 409)) w := by kernel_rfl
theorem asDirectV (w : World) : (Rtype.directlyAssignable 133 133).run Tryd.prog w = .ok true w := by kernel_rfl

theorem asValueOfPR (t : Addr) (w : World) : (ReflectliteValue.unpack (.iface 138 (.pointer (some t)))).run Tryd.prog w
    = .ok (.agg #[.pointer (some ⟨10, 138, none⟩), .pointer (some ⟨w.heap.size, 0, none⟩), .int .u64 150]) (w.alloc (.cells #[.pointer (some t)] 138)) := by kernel_rfl
theorem asTypePR (a : Addr) (w : World) : (ReflectliteValue.methodAny (ReflectliteValue.valueError "reflectlite.Value.Type" 0) (fun t _ _ _ => ReflectliteType.toType t) #[.agg #[.pointer (some ⟨10, 138, none⟩), .pointer (some a), .int .u64 150]]).run Tryd.prog w
    = .ok (.iface 222 (.agg #[.pointer (some ⟨10, 138, none⟩)])) w := by kernel_rfl
theorem asKindPR (w : World) : ((ReflectliteType.abiMethod fun t => (fun a : Nat => Value.int IntKind.u8 (a : Int)) <$> Rtype.kind t) #[.pointer (some ⟨10, 138, none⟩)]).run Tryd.prog w = .ok (.int .u8 22) w := by kernel_rfl
theorem asKindER (w : World) : ((ReflectliteType.abiMethod fun t => (fun a : Nat => Value.int IntKind.u8 (a : Int)) <$> Rtype.kind t) #[.pointer (some ⟨10, 134, none⟩)]).run Tryd.prog w = .ok (.int .u8 25) w := by kernel_rfl
theorem asPartsPR (a : Addr) (w : World) : (ReflectliteValue.parts (.agg #[.pointer (some ⟨10, 138, none⟩), .pointer (some a), .int .u64 150])).run Tryd.prog w = .ok (some (138, a, 150)) w := by kernel_rfl
theorem asIsNilPR (a p : Addr) (W : World) (ha : W.cell? a = some (.pointer (some p))) :
    (ReflectliteValue.method (ReflectliteValue.valueError "reflectlite.Value.IsNil" 0) ReflectliteValue.isNil #[.agg #[.pointer (some ⟨10, 138, none⟩), .pointer (some a), .int .u64 150]]).run Tryd.prog W = .ok (.bool false) W := by
  rw [rlmA]
  simp only [Sem.run_bind, asPartsPR, Result.andThen]
  simp [ReflectliteValue.isNil, loadVar, isAgg, underlying, Tryd.underlying138, ha, Result.andThen]
theorem asElemPR (w : World) : (ReflectliteType.method ReflectliteType.elem #[.agg #[.pointer (some ⟨10, 138, none⟩)]]).run Tryd.prog w = .ok (.iface 222 (.agg #[.pointer (some ⟨10, 134, none⟩)])) w := by kernel_rfl
theorem asImplER (w : World) : (ReflectliteType.relation "Implements" ReflectliteType.implements_ #[.agg #[.pointer (some ⟨10, 134, none⟩)], .iface 222 (.agg #[.pointer (some ⟨10, 83, none⟩)])]).run Tryd.prog w = .ok (.bool true) w := by kernel_rfl
theorem asElemOfPR (w : World) : (Rtype.elem? 138).run Tryd.prog w = .ok (some 134) w := by kernel_rfl
theorem asMkER (p : Addr) (w : World) : (ReflectliteValue.mk 134 p ReflectliteValue.flagAddr).run Tryd.prog w = .ok (.agg #[.pointer (some ⟨10, 134, none⟩), .pointer (some p), .int .u64 409]) w := by kernel_rfl
theorem asElemVR (a p : Addr) (W : World) (ha : W.cell? a = some (.pointer (some p))) :
    (ReflectliteValue.method (ReflectliteValue.valueError "reflectlite.Value.Elem" 0) ReflectliteValue.elem #[.agg #[.pointer (some ⟨10, 138, none⟩), .pointer (some a), .int .u64 150]]).run Tryd.prog W
      = .ok (.agg #[.pointer (some ⟨10, 134, none⟩), .pointer (some p), .int .u64 409]) W := by
  rw [rlmA]
  simp only [Sem.run_bind, asPartsPR, Result.andThen]
  simp [ReflectliteValue.elem, loadVar, isAgg, underlying, Tryd.underlying138, ha, Result.andThen, asElemOfPR, asMkER]
theorem asPartsEaR (a : Addr) (w : World) : (ReflectliteValue.parts (.agg #[.pointer (some ⟨10, 134, none⟩), .pointer (some a), .int .u64 409])).run Tryd.prog w = .ok (some (134, a, 409)) w := by kernel_rfl
theorem asDirectR (w : World) : (Rtype.directlyAssignable 134 134).run Tryd.prog w = .ok true w := by kernel_rfl

theorem asValueOfPL (t : Addr) (w : World) : (ReflectliteValue.unpack (.iface 139 (.pointer (some t)))).run Tryd.prog w
    = .ok (.agg #[.pointer (some ⟨10, 139, none⟩), .pointer (some ⟨w.heap.size, 0, none⟩), .int .u64 150]) (w.alloc (.cells #[.pointer (some t)] 139)) := by kernel_rfl
theorem asTypePL (a : Addr) (w : World) : (ReflectliteValue.methodAny (ReflectliteValue.valueError "reflectlite.Value.Type" 0) (fun t _ _ _ => ReflectliteType.toType t) #[.agg #[.pointer (some ⟨10, 139, none⟩), .pointer (some a), .int .u64 150]]).run Tryd.prog w
    = .ok (.iface 222 (.agg #[.pointer (some ⟨10, 139, none⟩)])) w := by kernel_rfl
theorem asKindPL (w : World) : ((ReflectliteType.abiMethod fun t => (fun a : Nat => Value.int IntKind.u8 (a : Int)) <$> Rtype.kind t) #[.pointer (some ⟨10, 139, none⟩)]).run Tryd.prog w = .ok (.int .u8 22) w := by kernel_rfl
theorem asKindEL (w : World) : ((ReflectliteType.abiMethod fun t => (fun a : Nat => Value.int IntKind.u8 (a : Int)) <$> Rtype.kind t) #[.pointer (some ⟨10, 135, none⟩)]).run Tryd.prog w = .ok (.int .u8 25) w := by kernel_rfl
theorem asPartsPL (a : Addr) (w : World) : (ReflectliteValue.parts (.agg #[.pointer (some ⟨10, 139, none⟩), .pointer (some a), .int .u64 150])).run Tryd.prog w = .ok (some (139, a, 150)) w := by kernel_rfl
theorem asIsNilPL (a p : Addr) (W : World) (ha : W.cell? a = some (.pointer (some p))) :
    (ReflectliteValue.method (ReflectliteValue.valueError "reflectlite.Value.IsNil" 0) ReflectliteValue.isNil #[.agg #[.pointer (some ⟨10, 139, none⟩), .pointer (some a), .int .u64 150]]).run Tryd.prog W = .ok (.bool false) W := by
  rw [rlmA]
  simp only [Sem.run_bind, asPartsPL, Result.andThen]
  simp [ReflectliteValue.isNil, loadVar, isAgg, underlying, Tryd.underlying139, ha, Result.andThen]
theorem asElemPL (w : World) : (ReflectliteType.method ReflectliteType.elem #[.agg #[.pointer (some ⟨10, 139, none⟩)]]).run Tryd.prog w = .ok (.iface 222 (.agg #[.pointer (some ⟨10, 135, none⟩)])) w := by kernel_rfl
theorem asImplEL (w : World) : (ReflectliteType.relation "Implements" ReflectliteType.implements_ #[.agg #[.pointer (some ⟨10, 135, none⟩)], .iface 222 (.agg #[.pointer (some ⟨10, 83, none⟩)])]).run Tryd.prog w = .ok (.bool true) w := by kernel_rfl
theorem asElemOfPL (w : World) : (Rtype.elem? 139).run Tryd.prog w = .ok (some 135) w := by kernel_rfl
theorem asMkEL (p : Addr) (w : World) : (ReflectliteValue.mk 135 p ReflectliteValue.flagAddr).run Tryd.prog w = .ok (.agg #[.pointer (some ⟨10, 135, none⟩), .pointer (some p), .int .u64 409]) w := by kernel_rfl
theorem asElemVL (a p : Addr) (W : World) (ha : W.cell? a = some (.pointer (some p))) :
    (ReflectliteValue.method (ReflectliteValue.valueError "reflectlite.Value.Elem" 0) ReflectliteValue.elem #[.agg #[.pointer (some ⟨10, 139, none⟩), .pointer (some a), .int .u64 150]]).run Tryd.prog W
      = .ok (.agg #[.pointer (some ⟨10, 135, none⟩), .pointer (some p), .int .u64 409]) W := by
  rw [rlmA]
  simp only [Sem.run_bind, asPartsPL, Result.andThen]
  simp [ReflectliteValue.elem, loadVar, isAgg, underlying, Tryd.underlying139, ha, Result.andThen, asElemOfPL, asMkEL]
theorem asPartsEaL (a : Addr) (w : World) : (ReflectliteValue.parts (.agg #[.pointer (some ⟨10, 135, none⟩), .pointer (some a), .int .u64 409])).run Tryd.prog w = .ok (some (135, a, 409)) w := by kernel_rfl
theorem asDirectL (w : World) : (Rtype.directlyAssignable 135 135).run Tryd.prog w = .ok true w := by kernel_rfl

theorem asTypeOfV (v : Value) (w : World) : (ReflectliteType.typeOf #[.iface 133 v]).run Tryd.prog w = .ok (.iface 222 (.agg #[.pointer (some ⟨10, 133, none⟩)])) w := by kernel_rfl
theorem asLacksV1 (v : Value) (xT : TypeId) (w : World) : (Instr.typeAssert (.iface 133 v) xT 226 true).run Tryd.prog w = .ok (.tuple #[.nilIface, .bool false]) w := run_typeAssert_lacksB Tryd.underlying226 (by kernel_rfl) (by kernel_rfl) v xT w
theorem asLacksV2 (v : Value) (xT : TypeId) (w : World) : (Instr.typeAssert (.iface 133 v) xT 229 true).run Tryd.prog w = .ok (.tuple #[.nilIface, .bool false]) w := run_typeAssert_lacksB Tryd.underlying229 (by kernel_rfl) (by kernel_rfl) v xT w
theorem asLacksV3 (v : Value) (xT : TypeId) (w : World) : (Instr.typeAssert (.iface 133 v) xT 230 true).run Tryd.prog w = .ok (.tuple #[.nilIface, .bool false]) w := run_typeAssert_lacksB Tryd.underlying230 (by kernel_rfl) (by kernel_rfl) v xT w
theorem asValueOfV (w : World) : (ReflectliteValue.unpack (.iface 133 (.agg #[]))).run Tryd.prog w
    = .ok (.agg #[.pointer (some ⟨10, 133, none⟩), .pointer (some ⟨w.heap.size, 0, none⟩), .int .u64 153]) (w.alloc (.cells #[] 133)) := by kernel_rfl
theorem asPartsEV (a : Addr) (w : World) : (ReflectliteValue.parts (.agg #[.pointer (some ⟨10, 133, none⟩), .pointer (some a), .int .u64 153])).run Tryd.prog w = .ok (some (133, a, 153)) w := by kernel_rfl

theorem asTypeOfR (v : Value) (w : World) : (ReflectliteType.typeOf #[.iface 134 v]).run Tryd.prog w = .ok (.iface 222 (.agg #[.pointer (some ⟨10, 134, none⟩)])) w := by kernel_rfl
theorem asLacksR1 (v : Value) (xT : TypeId) (w : World) : (Instr.typeAssert (.iface 134 v) xT 226 true).run Tryd.prog w = .ok (.tuple #[.nilIface, .bool false]) w := run_typeAssert_lacksB Tryd.underlying226 (by kernel_rfl) (by kernel_rfl) v xT w
theorem asLacksR2 (v : Value) (xT : TypeId) (w : World) : (Instr.typeAssert (.iface 134 v) xT 229 true).run Tryd.prog w = .ok (.tuple #[.nilIface, .bool false]) w := run_typeAssert_lacksB Tryd.underlying229 (by kernel_rfl) (by kernel_rfl) v xT w
theorem asLacksR3 (v : Value) (xT : TypeId) (w : World) : (Instr.typeAssert (.iface 134 v) xT 230 true).run Tryd.prog w = .ok (.tuple #[.nilIface, .bool false]) w := run_typeAssert_lacksB Tryd.underlying230 (by kernel_rfl) (by kernel_rfl) v xT w
theorem asValueOfR (w : World) : (ReflectliteValue.unpack (.iface 134 (.agg #[]))).run Tryd.prog w
    = .ok (.agg #[.pointer (some ⟨10, 134, none⟩), .pointer (some ⟨w.heap.size, 0, none⟩), .int .u64 153]) (w.alloc (.cells #[] 134)) := by kernel_rfl
theorem asPartsER (a : Addr) (w : World) : (ReflectliteValue.parts (.agg #[.pointer (some ⟨10, 134, none⟩), .pointer (some a), .int .u64 153])).run Tryd.prog w = .ok (some (134, a, 153)) w := by kernel_rfl

theorem asTypeOfL (v : Value) (w : World) : (ReflectliteType.typeOf #[.iface 135 v]).run Tryd.prog w = .ok (.iface 222 (.agg #[.pointer (some ⟨10, 135, none⟩)])) w := by kernel_rfl
theorem asLacksL1 (v : Value) (xT : TypeId) (w : World) : (Instr.typeAssert (.iface 135 v) xT 226 true).run Tryd.prog w = .ok (.tuple #[.nilIface, .bool false]) w := run_typeAssert_lacksB Tryd.underlying226 (by kernel_rfl) (by kernel_rfl) v xT w
theorem asLacksL2 (v : Value) (xT : TypeId) (w : World) : (Instr.typeAssert (.iface 135 v) xT 229 true).run Tryd.prog w = .ok (.tuple #[.nilIface, .bool false]) w := run_typeAssert_lacksB Tryd.underlying229 (by kernel_rfl) (by kernel_rfl) v xT w
theorem asLacksL3 (v : Value) (xT : TypeId) (w : World) : (Instr.typeAssert (.iface 135 v) xT 230 true).run Tryd.prog w = .ok (.tuple #[.nilIface, .bool false]) w := run_typeAssert_lacksB Tryd.underlying230 (by kernel_rfl) (by kernel_rfl) v xT w
theorem asValueOfL (w : World) : (ReflectliteValue.unpack (.iface 135 (.agg #[]))).run Tryd.prog w
    = .ok (.agg #[.pointer (some ⟨10, 135, none⟩), .pointer (some ⟨w.heap.size, 0, none⟩), .int .u64 153]) (w.alloc (.cells #[] 135)) := by kernel_rfl
theorem asPartsEL (a : Addr) (w : World) : (ReflectliteValue.parts (.agg #[.pointer (some ⟨10, 135, none⟩), .pointer (some a), .int .u64 153])).run Tryd.prog w = .ok (some (135, a, 153)) w := by kernel_rfl

theorem asTypeOfT (v : Value) (w : World) : (ReflectliteType.typeOf #[.iface 132 v]).run Tryd.prog w = .ok (.iface 222 (.agg #[.pointer (some ⟨10, 132, none⟩)])) w := by kernel_rfl
theorem asLacksT1 (v : Value) (xT : TypeId) (w : World) : (Instr.typeAssert (.iface 132 v) xT 226 true).run Tryd.prog w = .ok (.tuple #[.nilIface, .bool false]) w := run_typeAssert_lacksB Tryd.underlying226 (by kernel_rfl) (by kernel_rfl) v xT w
theorem asLacksT2 (v : Value) (xT : TypeId) (w : World) : (Instr.typeAssert (.iface 132 v) xT 229 true).run Tryd.prog w = .ok (.tuple #[.nilIface, .bool false]) w := run_typeAssert_lacksB Tryd.underlying229 (by kernel_rfl) (by kernel_rfl) v xT w
theorem asLacksT3 (v : Value) (xT : TypeId) (w : World) : (Instr.typeAssert (.iface 132 v) xT 230 true).run Tryd.prog w = .ok (.tuple #[.nilIface, .bool false]) w := run_typeAssert_lacksB Tryd.underlying230 (by kernel_rfl) (by kernel_rfl) v xT w
theorem asValueOfT (w : World) : (ReflectliteValue.unpack (.iface 132 (.agg #[]))).run Tryd.prog w
    = .ok (.agg #[.pointer (some ⟨10, 132, none⟩), .pointer (some ⟨w.heap.size, 0, none⟩), .int .u64 153]) (w.alloc (.cells #[] 132)) := by kernel_rfl
theorem asPartsET (a : Addr) (w : World) : (ReflectliteValue.parts (.agg #[.pointer (some ⟨10, 132, none⟩), .pointer (some a), .int .u64 153])).run Tryd.prog w = .ok (some (132, a, 153)) w := by kernel_rfl

theorem asSetV (ta b : Addr) (W : World) :
    (ReflectliteValue.set #[.agg #[.pointer (some ⟨10, 133, none⟩), .pointer (some ta), .int .u64 409], .agg #[.pointer (some ⟨10, 133, none⟩), .pointer (some b), .int .u64 153]]).run Tryd.prog W
      = .ok (.tuple #[]) W := by
  rw [rlsA]
  simp only [Sem.run_bind, asPartsEaV, asPartsEV, Result.andThen]
  have hs : (sizeOf 133).run Tryd.prog W = .ok 0 W := by kernel_rfl
  simp [ReflectliteValue.flagAddr, loadVar, isAgg, underlying, Tryd.underlying133, Result.andThen, asDirectV, storeVar, Value.cells, storeCells, loadCells, hs]
  rfl

theorem asSetR (ta b : Addr) (W : World) :
    (ReflectliteValue.set #[.agg #[.pointer (some ⟨10, 134, none⟩), .pointer (some ta), .int .u64 409], .agg #[.pointer (some ⟨10, 134, none⟩), .pointer (some b), .int .u64 153]]).run Tryd.prog W
      = .ok (.tuple #[]) W := by
  rw [rlsA]
  simp only [Sem.run_bind, asPartsEaR, asPartsER, Result.andThen]
  have hs : (sizeOf 134).run Tryd.prog W = .ok 0 W := by kernel_rfl
  simp [ReflectliteValue.flagAddr, loadVar, isAgg, underlying, Tryd.underlying134, Result.andThen, asDirectR, storeVar, Value.cells, storeCells, loadCells, hs]
  rfl

theorem asSetL (ta b : Addr) (W : World) :
    (ReflectliteValue.set #[.agg #[.pointer (some ⟨10, 135, none⟩), .pointer (some ta), .int .u64 409], .agg #[.pointer (some ⟨10, 135, none⟩), .pointer (some b), .int .u64 153]]).run Tryd.prog W
      = .ok (.tuple #[]) W := by
  rw [rlsA]
  simp only [Sem.run_bind, asPartsEaL, asPartsEL, Result.andThen]
  have hs : (sizeOf 135).run Tryd.prog W = .ok 0 W := by kernel_rfl
  simp [ReflectliteValue.flagAddr, loadVar, isAgg, underlying, Tryd.underlying135, Result.andThen, asDirectL, storeVar, Value.cells, storeCells, loadCells, hs]
  rfl
theorem asAssignVV (w : World) : (ReflectliteType.relation "AssignableTo" ReflectliteType.assignableTo #[.agg #[.pointer (some ⟨10, 133, none⟩)], .iface 222 (.agg #[.pointer (some ⟨10, 133, none⟩)])]).run Tryd.prog w = .ok (.bool true) w := by kernel_rfl
theorem asAssignRV (w : World) : (ReflectliteType.relation "AssignableTo" ReflectliteType.assignableTo #[.agg #[.pointer (some ⟨10, 134, none⟩)], .iface 222 (.agg #[.pointer (some ⟨10, 133, none⟩)])]).run Tryd.prog w = .ok (.bool false) w := by kernel_rfl
theorem asAssignLV (w : World) : (ReflectliteType.relation "AssignableTo" ReflectliteType.assignableTo #[.agg #[.pointer (some ⟨10, 135, none⟩)], .iface 222 (.agg #[.pointer (some ⟨10, 133, none⟩)])]).run Tryd.prog w = .ok (.bool false) w := by kernel_rfl
theorem asAssignTV (w : World) : (ReflectliteType.relation "AssignableTo" ReflectliteType.assignableTo #[.agg #[.pointer (some ⟨10, 132, none⟩)], .iface 222 (.agg #[.pointer (some ⟨10, 133, none⟩)])]).run Tryd.prog w = .ok (.bool false) w := by kernel_rfl
theorem asAssignVR (w : World) : (ReflectliteType.relation "AssignableTo" ReflectliteType.assignableTo #[.agg #[.pointer (some ⟨10, 133, none⟩)], .iface 222 (.agg #[.pointer (some ⟨10, 134, none⟩)])]).run Tryd.prog w = .ok (.bool false) w := by kernel_rfl
theorem asAssignRR (w : World) : (ReflectliteType.relation "AssignableTo" ReflectliteType.assignableTo #[.agg #[.pointer (some ⟨10, 134, none⟩)], .iface 222 (.agg #[.pointer (some ⟨10, 134, none⟩)])]).run Tryd.prog w = .ok (.bool true) w := by kernel_rfl
theorem asAssignLR (w : World) : (ReflectliteType.relation "AssignableTo" ReflectliteType.assignableTo #[.agg #[.pointer (some ⟨10, 135, none⟩)], .iface 222 (.agg #[.pointer (some ⟨10, 134, none⟩)])]).run Tryd.prog w = .ok (.bool false) w := by kernel_rfl
theorem asAssignTR (w : World) : (ReflectliteType.relation "AssignableTo" ReflectliteType.assignableTo #[.agg #[.pointer (some ⟨10, 132, none⟩)], .iface 222 (.agg #[.pointer (some ⟨10, 134, none⟩)])]).run Tryd.prog w = .ok (.bool false) w := by kernel_rfl
theorem asAssignVL (w : World) : (ReflectliteType.relation "AssignableTo" ReflectliteType.assignableTo #[.agg #[.pointer (some ⟨10, 133, none⟩)], .iface 222 (.agg #[.pointer (some ⟨10, 135, none⟩)])]).run Tryd.prog w = .ok (.bool false) w := by kernel_rfl
theorem asAssignRL (w : World) : (ReflectliteType.relation "AssignableTo" ReflectliteType.assignableTo #[.agg #[.pointer (some ⟨10, 134, none⟩)], .iface 222 (.agg #[.pointer (some ⟨10, 135, none⟩)])]).run Tryd.prog w = .ok (.bool false) w := by kernel_rfl
theorem asAssignLL (w : World) : (ReflectliteType.relation "AssignableTo" ReflectliteType.assignableTo #[.agg #[.pointer (some ⟨10, 135, none⟩)], .iface 222 (.agg #[.pointer (some ⟨10, 135, none⟩)])]).run Tryd.prog w = .ok (.bool true) w := by kernel_rfl
theorem asAssignTL (w : World) : (ReflectliteType.relation "AssignableTo" ReflectliteType.assignableTo #[.agg #[.pointer (some ⟨10, 132, none⟩)], .iface 222 (.agg #[.pointer (some ⟨10, 135, none⟩)])]).run Tryd.prog w = .ok (.bool false) w := by kernel_rfl
end Go.Proofs.YtcdddngdjhjdbaaDoor
