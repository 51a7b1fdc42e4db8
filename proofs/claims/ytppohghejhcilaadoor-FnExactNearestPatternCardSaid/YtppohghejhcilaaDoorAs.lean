/- errors.As at the refusals of chapter 7: errors of empty structs, by their own types. -/
import Derived.Test.YtppohghejhcilaaDoorLaidN
import Derived.Test.YtppohghejhcilaaDoorRows
import Derived.Test.YtppohghejhcilaaDoorAgg
import Derived.WalkKit
import Derived.LaidEql
import Derived.Stop.Asserts
import Derived.Stop.IfaceNil
import Derived.RowKitTokens
import Derived.LaidLaws
import Derived.LaidHandle
namespace Go.Proofs.YtppohghejhcilaaDoor
open Go.RowKit Go.Extern.Stop Go.Stop Go.Extern

theorem rlmA (z : Sem Value) (f : TypeId → Addr → Nat → Nat → Sem Value) (v : Value) :
    ReflectliteValue.method z f #[v] = (do match ← ReflectliteValue.parts v with | none => z | some (t, a, fl) => f t a fl (fl % 32)) := rfl
theorem rlsA (v x : Value) : ReflectliteValue.set #[v, x] = (do
    let (some (dst, a, fl), some (src, b, _)) := (← ReflectliteValue.parts v, ← ReflectliteValue.parts x)
      | unsupported (.noEntry "extern/(internal/reflectlite.Value).Set.zeroValue")
    if fl / ReflectliteValue.flagAddr % 2 == 0 then unsupported (.noEntry "extern/(internal/reflectlite.Value).Set.unaddressable")
    let val ← loadVar src b
    if ← Rtype.directlyAssignable dst src then storeVar dst a val
    else if ← Rtype.implements dst src then
      if (← Rtype.kind src) == 20 then
        match val with
        | .nilIface => unsupported (.noEntry "extern/reflectlite: a nil value of one interface type handed on as a value of another")
        | _ => storeVar dst a val
      else storeVar dst a (.iface src val)
    else panicString ("reflectlite.Set: value of type " ++ (← Rtype.spelt src) ++ " is not assignable to type " ++ (← Rtype.spelt dst))
    pure (.tuple #[])) := rfl
theorem asMethodKind (h : Value) (w : World) : (Go.method 244 181 (.agg #[h]) "Kind").run Tryd.prog w = .ok (148, h) w := by kernel_rfl
theorem asMethodElem (h : Value) (w : World) : (Go.method 244 181 (.agg #[h]) "Elem").run Tryd.prog w = .ok (166, .agg #[h]) w := by kernel_rfl
theorem asMethodImplements (h : Value) (w : World) : (Go.method 244 181 (.agg #[h]) "Implements").run Tryd.prog w = .ok (167, .agg #[h]) w := by kernel_rfl
theorem asMethodAssignableTo (h : Value) (w : World) : (Go.method 244 181 (.agg #[h]) "AssignableTo").run Tryd.prog w = .ok (164, .agg #[h]) w := by kernel_rfl

theorem asValueOfPV (t : Addr) (w : World) : (ReflectliteValue.unpack (.iface 134 (.pointer (some t)))).run Tryd.prog w
    = .ok (.agg #[.pointer (some ⟨4, 134, none⟩), .pointer (some ⟨w.heap.size, 0, none⟩), .int .u64 150]) (w.alloc (.cells #[.pointer (some t)] 134)) := by kernel_rfl
theorem asTypePV (a : Addr) (w : World) : (ReflectliteValue.methodAny (ReflectliteValue.valueError "reflectlite.Value.Type" 0) (fun t _ _ _ => ReflectliteType.toType t) #[.agg #[.pointer (some ⟨4, 134, none⟩), .pointer (some a), .int .u64 150]]).run Tryd.prog w
    = .ok (.iface 181 (.agg #[.pointer (some ⟨4, 134, none⟩)])) w := by kernel_rfl
theorem asKindPV (w : World) : ((ReflectliteType.abiMethod fun t => (fun a : Nat => Value.int IntKind.u8 (a : Int)) <$> Rtype.kind t) #[.pointer (some ⟨4, 134, none⟩)]).run Tryd.prog w = .ok (.int .u8 22) w := by kernel_rfl
theorem asKindEV (w : World) : ((ReflectliteType.abiMethod fun t => (fun a : Nat => Value.int IntKind.u8 (a : Int)) <$> Rtype.kind t) #[.pointer (some ⟨4, 130, none⟩)]).run Tryd.prog w = .ok (.int .u8 25) w := by kernel_rfl
theorem asPartsPV (a : Addr) (w : World) : (ReflectliteValue.parts (.agg #[.pointer (some ⟨4, 134, none⟩), .pointer (some a), .int .u64 150])).run Tryd.prog w = .ok (some (134, a, 150)) w := by kernel_rfl
theorem asIsNilPV (a p : Addr) (W : World) (ha : W.cell? a = some (.pointer (some p))) :
    (ReflectliteValue.method (ReflectliteValue.valueError "reflectlite.Value.IsNil" 0) ReflectliteValue.isNil #[.agg #[.pointer (some ⟨4, 134, none⟩), .pointer (some a), .int .u64 150]]).run Tryd.prog W = .ok (.bool false) W := by
  rw [rlmA]
  simp only [Sem.run_bind, asPartsPV, Result.andThen]
  simp [ReflectliteValue.isNil, loadVar, isAgg, underlying, Tryd.underlying134, ha, Result.andThen]
theorem asElemPV (w : World) : (ReflectliteType.method ReflectliteType.elem #[.agg #[.pointer (some ⟨4, 134, none⟩)]]).run Tryd.prog w = .ok (.iface 181 (.agg #[.pointer (some ⟨4, 130, none⟩)])) w := by kernel_rfl
theorem asImplEV (w : World) : (ReflectliteType.relation "Implements" ReflectliteType.implements_ #[.agg #[.pointer (some ⟨4, 130, none⟩)], .iface 181 (.agg #[.pointer (some ⟨4, 76, none⟩)])]).run Tryd.prog w = .ok (.bool true) w := by kernel_rfl
theorem asElemOfPV (w : World) : (Rtype.elem? 134).run Tryd.prog w = .ok (some 130) w := by kernel_rfl
theorem asMkEV (p : Addr) (w : World) : (ReflectliteValue.mk 130 p ReflectliteValue.flagAddr).run Tryd.prog w = .ok (.agg #[.pointer (some ⟨4, 130, none⟩), .pointer (some p), .int .u64 409]) w := by kernel_rfl
theorem asElemVV (a p : Addr) (W : World) (ha : W.cell? a = some (.pointer (some p))) :
    (ReflectliteValue.method (ReflectliteValue.valueError "reflectlite.Value.Elem" 0) ReflectliteValue.elem #[.agg #[.pointer (some ⟨4, 134, none⟩), .pointer (some a), .int .u64 150]]).run Tryd.prog W
      = .ok (.agg #[.pointer (some ⟨4, 130, none⟩), .pointer (some p), .int .u64 409]) W := by
  rw [rlmA]
  simp only [Sem.run_bind, asPartsPV, Result.andThen]
  simp [ReflectliteValue.elem, loadVar, isAgg, underlying, Tryd.underlying134, ha, Result.andThen, asElemOfPV, asMkEV]
theorem asPartsEaV (a : Addr) (w : World) : (ReflectliteValue.parts (.agg #[.pointer (some ⟨4, 130, none⟩), .pointer (some a), .int .u64 409])).run Tryd.prog w = .ok (some (130, a, 409)) w := by kernel_rfl
theorem asDirectV (w : World) : (Rtype.directlyAssignable 130 130).run Tryd.prog w = .ok true w := by kernel_rfl

theorem asValueOfPR (t : Addr) (w : World) : (ReflectliteValue.unpack (.iface 135 (.pointer (some t)))).run Tryd.prog w
    = .ok (.agg #[.pointer (some ⟨4, 135, none⟩), .pointer (some ⟨w.heap.size, 0, none⟩), .int .u64 150]) (w.alloc (.cells #[.pointer (some t)] 135)) := by kernel_rfl
theorem asTypePR (a : Addr) (w : World) : (ReflectliteValue.methodAny (ReflectliteValue.valueError "reflectlite.Value.Type" 0) (fun t _ _ _ => ReflectliteType.toType t) #[.agg #[.pointer (some ⟨4, 135, none⟩), .pointer (some a), .int .u64 150]]).run Tryd.prog w
    = .ok (.iface 181 (.agg #[.pointer (some ⟨4, 135, none⟩)])) w := by kernel_rfl
theorem asKindPR (w : World) : ((ReflectliteType.abiMethod fun t => (fun a : Nat => Value.int IntKind.u8 (a : Int)) <$> Rtype.kind t) #[.pointer (some ⟨4, 135, none⟩)]).run Tryd.prog w = .ok (.int .u8 22) w := by kernel_rfl
theorem asKindER (w : World) : ((ReflectliteType.abiMethod fun t => (fun a : Nat => Value.int IntKind.u8 (a : Int)) <$> Rtype.kind t) #[.pointer (some ⟨4, 131, none⟩)]).run Tryd.prog w = .ok (.int .u8 25) w := by kernel_rfl
theorem asPartsPR (a : Addr) (w : World) : (ReflectliteValue.parts (.agg #[.pointer (some ⟨4, 135, none⟩), .pointer (some a), .int .u64 150])).run Tryd.prog w = .ok (some (135, a, 150)) w := by kernel_rfl
theorem asIsNilPR (a p : Addr) (W : World) (ha : W.cell? a = some (.pointer (some p))) :
    (ReflectliteValue.method (ReflectliteValue.valueError "reflectlite.Value.IsNil" 0) ReflectliteValue.isNil #[.agg #[.pointer (some ⟨4, 135, none⟩), .pointer (some a), .int .u64 150]]).run Tryd.prog W = .ok (.bool false) W := by
  rw [rlmA]
  simp only [Sem.run_bind, asPartsPR, Result.andThen]
  simp [ReflectliteValue.isNil, loadVar, isAgg, underlying, Tryd.underlying135, ha, Result.andThen]
theorem asElemPR (w : World) : (ReflectliteType.method ReflectliteType.elem #[.agg #[.pointer (some ⟨4, 135, none⟩)]]).run Tryd.prog w = .ok (.iface 181 (.agg #[.pointer (some ⟨4, 131, none⟩)])) w := by kernel_rfl
theorem asImplER (w : World) : (ReflectliteType.relation "Implements" ReflectliteType.implements_ #[.agg #[.pointer (some ⟨4, 131, none⟩)], .iface 181 (.agg #[.pointer (some ⟨4, 76, none⟩)])]).run Tryd.prog w = .ok (.bool true) w := by kernel_rfl
theorem asElemOfPR (w : World) : (Rtype.elem? 135).run Tryd.prog w = .ok (some 131) w := by kernel_rfl
theorem asMkER (p : Addr) (w : World) : (ReflectliteValue.mk 131 p ReflectliteValue.flagAddr).run Tryd.prog w = .ok (.agg #[.pointer (some ⟨4, 131, none⟩), .pointer (some p), .int .u64 409]) w := by kernel_rfl
theorem asElemVR (a p : Addr) (W : World) (ha : W.cell? a = some (.pointer (some p))) :
    (ReflectliteValue.method (ReflectliteValue.valueError "reflectlite.Value.Elem" 0) ReflectliteValue.elem #[.agg #[.pointer (some ⟨4, 135, none⟩), .pointer (some a), .int .u64 150]]).run Tryd.prog W
      = .ok (.agg #[.pointer (some ⟨4, 131, none⟩), .pointer (some p), .int .u64 409]) W := by
  rw [rlmA]
  simp only [Sem.run_bind, asPartsPR, Result.andThen]
  simp [ReflectliteValue.elem, loadVar, isAgg, underlying, Tryd.underlying135, ha, Result.andThen, asElemOfPR, asMkER]
theorem asPartsEaR (a : Addr) (w : World) : (ReflectliteValue.parts (.agg #[.pointer (some ⟨4, 131, none⟩), .pointer (some a), .int .u64 409])).run Tryd.prog w = .ok (some (131, a, 409)) w := by kernel_rfl
theorem asDirectR (w : World) : (Rtype.directlyAssignable 131 131).run Tryd.prog w = .ok true w := by kernel_rfl

theorem asValueOfPL (t : Addr) (w : World) : (ReflectliteValue.unpack (.iface 136 (.pointer (some t)))).run Tryd.prog w
    = .ok (.agg #[.pointer (some ⟨4, 136, none⟩), .pointer (some ⟨w.heap.size, 0, none⟩), .int .u64 150]) (w.alloc (.cells #[.pointer (some t)] 136)) := by kernel_rfl
theorem asTypePL (a : Addr) (w : World) : (ReflectliteValue.methodAny (ReflectliteValue.valueError "reflectlite.Value.Type" 0) (fun t _ _ _ => ReflectliteType.toType t) #[.agg #[.pointer (some ⟨4, 136, none⟩), .pointer (some a), .int .u64 150]]).run Tryd.prog w
    = .ok (.iface 181 (.agg #[.pointer (some ⟨4, 136, none⟩)])) w := by kernel_rfl
theorem asKindPL (w : World) : ((ReflectliteType.abiMethod fun t => (fun a : Nat => Value.int IntKind.u8 (a : Int)) <$> Rtype.kind t) #[.pointer (some ⟨4, 136, none⟩)]).run Tryd.prog w = .ok (.int .u8 22) w := by kernel_rfl
theorem asKindEL (w : World) : ((ReflectliteType.abiMethod fun t => (fun a : Nat => Value.int IntKind.u8 (a : Int)) <$> Rtype.kind t) #[.pointer (some ⟨4, 132, none⟩)]).run Tryd.prog w = .ok (.int .u8 25) w := by kernel_rfl
theorem asPartsPL (a : Addr) (w : World) : (ReflectliteValue.parts (.agg #[.pointer (some ⟨4, 136, none⟩), .pointer (some a), .int .u64 150])).run Tryd.prog w = .ok (some (136, a, 150)) w := by kernel_rfl
theorem asIsNilPL (a p : Addr) (W : World) (ha : W.cell? a = some (.pointer (some p))) :
    (ReflectliteValue.method (ReflectliteValue.valueError "reflectlite.Value.IsNil" 0) ReflectliteValue.isNil #[.agg #[.pointer (some ⟨4, 136, none⟩), .pointer (some a), .int .u64 150]]).run Tryd.prog W = .ok (.bool false) W := by
  rw [rlmA]
  simp only [Sem.run_bind, asPartsPL, Result.andThen]
  simp [ReflectliteValue.isNil, loadVar, isAgg, underlying, Tryd.underlying136, ha, Result.andThen]
theorem asElemPL (w : World) : (ReflectliteType.method ReflectliteType.elem #[.agg #[.pointer (some ⟨4, 136, none⟩)]]).run Tryd.prog w = .ok (.iface 181 (.agg #[.pointer (some ⟨4, 132, none⟩)])) w := by kernel_rfl
theorem asImplEL (w : World) : (ReflectliteType.relation "Implements" ReflectliteType.implements_ #[.agg #[.pointer (some ⟨4, 132, none⟩)], .iface 181 (.agg #[.pointer (some ⟨4, 76, none⟩)])]).run Tryd.prog w = .ok (.bool true) w := by kernel_rfl
theorem asElemOfPL (w : World) : (Rtype.elem? 136).run Tryd.prog w = .ok (some 132) w := by kernel_rfl
theorem asMkEL (p : Addr) (w : World) : (ReflectliteValue.mk 132 p ReflectliteValue.flagAddr).run Tryd.prog w = .ok (.agg #[.pointer (some ⟨4, 132, none⟩), .pointer (some p), .int .u64 409]) w := by kernel_rfl
theorem asElemVL (a p : Addr) (W : World) (ha : W.cell? a = some (.pointer (some p))) :
    (ReflectliteValue.method (ReflectliteValue.valueError "reflectlite.Value.Elem" 0) ReflectliteValue.elem #[.agg #[.pointer (some ⟨4, 136, none⟩), .pointer (some a), .int .u64 150]]).run Tryd.prog W
      = .ok (.agg #[.pointer (some ⟨4, 132, none⟩), .pointer (some p), .int .u64 409]) W := by
  rw [rlmA]
  simp only [Sem.run_bind, asPartsPL, Result.andThen]
  simp [ReflectliteValue.elem, loadVar, isAgg, underlying, Tryd.underlying136, ha, Result.andThen, asElemOfPL, asMkEL]
theorem asPartsEaL (a : Addr) (w : World) : (ReflectliteValue.parts (.agg #[.pointer (some ⟨4, 132, none⟩), .pointer (some a), .int .u64 409])).run Tryd.prog w = .ok (some (132, a, 409)) w := by kernel_rfl
theorem asDirectL (w : World) : (Rtype.directlyAssignable 132 132).run Tryd.prog w = .ok true w := by kernel_rfl

theorem asTypeOfV (v : Value) (w : World) : (ReflectliteType.typeOf #[.iface 130 v]).run Tryd.prog w = .ok (.iface 181 (.agg #[.pointer (some ⟨4, 130, none⟩)])) w := by kernel_rfl
theorem asLacksV1 (v : Value) (xT : TypeId) (w : World) : (Instr.typeAssert (.iface 130 v) xT 186 true).run Tryd.prog w = .ok (.tuple #[.nilIface, .bool false]) w := run_typeAssert_lacksB Tryd.underlying186 (by kernel_rfl) (by kernel_rfl) v xT w
theorem asLacksV2 (v : Value) (xT : TypeId) (w : World) : (Instr.typeAssert (.iface 130 v) xT 189 true).run Tryd.prog w = .ok (.tuple #[.nilIface, .bool false]) w := run_typeAssert_lacksB Tryd.underlying189 (by kernel_rfl) (by kernel_rfl) v xT w
theorem asLacksV3 (v : Value) (xT : TypeId) (w : World) : (Instr.typeAssert (.iface 130 v) xT 191 true).run Tryd.prog w = .ok (.tuple #[.nilIface, .bool false]) w := run_typeAssert_lacksB Tryd.underlying191 (by kernel_rfl) (by kernel_rfl) v xT w
theorem asValueOfV (w : World) : (ReflectliteValue.unpack (.iface 130 (.agg #[]))).run Tryd.prog w
    = .ok (.agg #[.pointer (some ⟨4, 130, none⟩), .pointer (some ⟨w.heap.size, 0, none⟩), .int .u64 153]) (w.alloc (.cells #[] 130)) := by kernel_rfl
theorem asPartsEV (a : Addr) (w : World) : (ReflectliteValue.parts (.agg #[.pointer (some ⟨4, 130, none⟩), .pointer (some a), .int .u64 153])).run Tryd.prog w = .ok (some (130, a, 153)) w := by kernel_rfl

theorem asTypeOfR (v : Value) (w : World) : (ReflectliteType.typeOf #[.iface 131 v]).run Tryd.prog w = .ok (.iface 181 (.agg #[.pointer (some ⟨4, 131, none⟩)])) w := by kernel_rfl
theorem asLacksR1 (v : Value) (xT : TypeId) (w : World) : (Instr.typeAssert (.iface 131 v) xT 186 true).run Tryd.prog w = .ok (.tuple #[.nilIface, .bool false]) w := run_typeAssert_lacksB Tryd.underlying186 (by kernel_rfl) (by kernel_rfl) v xT w
theorem asLacksR2 (v : Value) (xT : TypeId) (w : World) : (Instr.typeAssert (.iface 131 v) xT 189 true).run Tryd.prog w = .ok (.tuple #[.nilIface, .bool false]) w := run_typeAssert_lacksB Tryd.underlying189 (by kernel_rfl) (by kernel_rfl) v xT w
theorem asLacksR3 (v : Value) (xT : TypeId) (w : World) : (Instr.typeAssert (.iface 131 v) xT 191 true).run Tryd.prog w = .ok (.tuple #[.nilIface, .bool false]) w := run_typeAssert_lacksB Tryd.underlying191 (by kernel_rfl) (by kernel_rfl) v xT w
theorem asValueOfR (w : World) : (ReflectliteValue.unpack (.iface 131 (.agg #[]))).run Tryd.prog w
    = .ok (.agg #[.pointer (some ⟨4, 131, none⟩), .pointer (some ⟨w.heap.size, 0, none⟩), .int .u64 153]) (w.alloc (.cells #[] 131)) := by kernel_rfl
theorem asPartsER (a : Addr) (w : World) : (ReflectliteValue.parts (.agg #[.pointer (some ⟨4, 131, none⟩), .pointer (some a), .int .u64 153])).run Tryd.prog w = .ok (some (131, a, 153)) w := by kernel_rfl

theorem asTypeOfL (v : Value) (w : World) : (ReflectliteType.typeOf #[.iface 132 v]).run Tryd.prog w = .ok (.iface 181 (.agg #[.pointer (some ⟨4, 132, none⟩)])) w := by kernel_rfl
theorem asLacksL1 (v : Value) (xT : TypeId) (w : World) : (Instr.typeAssert (.iface 132 v) xT 186 true).run Tryd.prog w = .ok (.tuple #[.nilIface, .bool false]) w := run_typeAssert_lacksB Tryd.underlying186 (by kernel_rfl) (by kernel_rfl) v xT w
theorem asLacksL2 (v : Value) (xT : TypeId) (w : World) : (Instr.typeAssert (.iface 132 v) xT 189 true).run Tryd.prog w = .ok (.tuple #[.nilIface, .bool false]) w := run_typeAssert_lacksB Tryd.underlying189 (by kernel_rfl) (by kernel_rfl) v xT w
theorem asLacksL3 (v : Value) (xT : TypeId) (w : World) : (Instr.typeAssert (.iface 132 v) xT 191 true).run Tryd.prog w = .ok (.tuple #[.nilIface, .bool false]) w := run_typeAssert_lacksB Tryd.underlying191 (by kernel_rfl) (by kernel_rfl) v xT w
theorem asValueOfL (w : World) : (ReflectliteValue.unpack (.iface 132 (.agg #[]))).run Tryd.prog w
    = .ok (.agg #[.pointer (some ⟨4, 132, none⟩), .pointer (some ⟨w.heap.size, 0, none⟩), .int .u64 153]) (w.alloc (.cells #[] 132)) := by kernel_rfl
theorem asPartsEL (a : Addr) (w : World) : (ReflectliteValue.parts (.agg #[.pointer (some ⟨4, 132, none⟩), .pointer (some a), .int .u64 153])).run Tryd.prog w = .ok (some (132, a, 153)) w := by kernel_rfl

theorem asTypeOfT (v : Value) (w : World) : (ReflectliteType.typeOf #[.iface 129 v]).run Tryd.prog w = .ok (.iface 181 (.agg #[.pointer (some ⟨4, 129, none⟩)])) w := by kernel_rfl
theorem asLacksT1 (v : Value) (xT : TypeId) (w : World) : (Instr.typeAssert (.iface 129 v) xT 186 true).run Tryd.prog w = .ok (.tuple #[.nilIface, .bool false]) w := run_typeAssert_lacksB Tryd.underlying186 (by kernel_rfl) (by kernel_rfl) v xT w
theorem asLacksT2 (v : Value) (xT : TypeId) (w : World) : (Instr.typeAssert (.iface 129 v) xT 189 true).run Tryd.prog w = .ok (.tuple #[.nilIface, .bool false]) w := run_typeAssert_lacksB Tryd.underlying189 (by kernel_rfl) (by kernel_rfl) v xT w
theorem asLacksT3 (v : Value) (xT : TypeId) (w : World) : (Instr.typeAssert (.iface 129 v) xT 191 true).run Tryd.prog w = .ok (.tuple #[.nilIface, .bool false]) w := run_typeAssert_lacksB Tryd.underlying191 (by kernel_rfl) (by kernel_rfl) v xT w
theorem asValueOfT (w : World) : (ReflectliteValue.unpack (.iface 129 (.agg #[]))).run Tryd.prog w
    = .ok (.agg #[.pointer (some ⟨4, 129, none⟩), .pointer (some ⟨w.heap.size, 0, none⟩), .int .u64 153]) (w.alloc (.cells #[] 129)) := by kernel_rfl
theorem asPartsET (a : Addr) (w : World) : (ReflectliteValue.parts (.agg #[.pointer (some ⟨4, 129, none⟩), .pointer (some a), .int .u64 153])).run Tryd.prog w = .ok (some (129, a, 153)) w := by kernel_rfl

theorem asSetV (ta b : Addr) (W : World) :
    (ReflectliteValue.set #[.agg #[.pointer (some ⟨4, 130, none⟩), .pointer (some ta), .int .u64 409], .agg #[.pointer (some ⟨4, 130, none⟩), .pointer (some b), .int .u64 153]]).run Tryd.prog W
      = .ok (.tuple #[]) W := by
  rw [rlsA]
  simp only [Sem.run_bind, asPartsEaV, asPartsEV, Result.andThen]
  have hs : (sizeOf 130).run Tryd.prog W = .ok 0 W := by kernel_rfl
  simp [ReflectliteValue.flagAddr, loadVar, isAgg, underlying, Tryd.underlying130, Result.andThen, asDirectV, storeVar, Value.cells, storeCells, loadCells, hs]
  rfl

theorem asSetR (ta b : Addr) (W : World) :
    (ReflectliteValue.set #[.agg #[.pointer (some ⟨4, 131, none⟩), .pointer (some ta), .int .u64 409], .agg #[.pointer (some ⟨4, 131, none⟩), .pointer (some b), .int .u64 153]]).run Tryd.prog W
      = .ok (.tuple #[]) W := by
  rw [rlsA]
  simp only [Sem.run_bind, asPartsEaR, asPartsER, Result.andThen]
  have hs : (sizeOf 131).run Tryd.prog W = .ok 0 W := by kernel_rfl
  simp [ReflectliteValue.flagAddr, loadVar, isAgg, underlying, Tryd.underlying131, Result.andThen, asDirectR, storeVar, Value.cells, storeCells, loadCells, hs]
  rfl

theorem asSetL (ta b : Addr) (W : World) :
    (ReflectliteValue.set #[.agg #[.pointer (some ⟨4, 132, none⟩), .pointer (some ta), .int .u64 409], .agg #[.pointer (some ⟨4, 132, none⟩), .pointer (some b), .int .u64 153]]).run Tryd.prog W
      = .ok (.tuple #[]) W := by
  rw [rlsA]
  simp only [Sem.run_bind, asPartsEaL, asPartsEL, Result.andThen]
  have hs : (sizeOf 132).run Tryd.prog W = .ok 0 W := by kernel_rfl
  simp [ReflectliteValue.flagAddr, loadVar, isAgg, underlying, Tryd.underlying132, Result.andThen, asDirectL, storeVar, Value.cells, storeCells, loadCells, hs]
  rfl
theorem asAssignVV (w : World) : (ReflectliteType.relation "AssignableTo" ReflectliteType.assignableTo #[.agg #[.pointer (some ⟨4, 130, none⟩)], .iface 181 (.agg #[.pointer (some ⟨4, 130, none⟩)])]).run Tryd.prog w = .ok (.bool true) w := by kernel_rfl
theorem asAssignRV (w : World) : (ReflectliteType.relation "AssignableTo" ReflectliteType.assignableTo #[.agg #[.pointer (some ⟨4, 131, none⟩)], .iface 181 (.agg #[.pointer (some ⟨4, 130, none⟩)])]).run Tryd.prog w = .ok (.bool false) w := by kernel_rfl
theorem asAssignLV (w : World) : (ReflectliteType.relation "AssignableTo" ReflectliteType.assignableTo #[.agg #[.pointer (some ⟨4, 132, none⟩)], .iface 181 (.agg #[.pointer (some ⟨4, 130, none⟩)])]).run Tryd.prog w = .ok (.bool false) w := by kernel_rfl
theorem asAssignTV (w : World) : (ReflectliteType.relation "AssignableTo" ReflectliteType.assignableTo #[.agg #[.pointer (some ⟨4, 129, none⟩)], .iface 181 (.agg #[.pointer (some ⟨4, 130, none⟩)])]).run Tryd.prog w = .ok (.bool false) w := by kernel_rfl
theorem asAssignVR (w : World) : (ReflectliteType.relation "AssignableTo" ReflectliteType.assignableTo #[.agg #[.pointer (some ⟨4, 130, none⟩)], .iface 181 (.agg #[.pointer (some ⟨4, 131, none⟩)])]).run Tryd.prog w = .ok (.bool false) w := by kernel_rfl
theorem asAssignRR (w : World) : (ReflectliteType.relation "AssignableTo" ReflectliteType.assignableTo #[.agg #[.pointer (some ⟨4, 131, none⟩)], .iface 181 (.agg #[.pointer (some ⟨4, 131, none⟩)])]).run Tryd.prog w = .ok (.bool true) w := by kernel_rfl
theorem asAssignLR (w : World) : (ReflectliteType.relation "AssignableTo" ReflectliteType.assignableTo #[.agg #[.pointer (some ⟨4, 132, none⟩)], .iface 181 (.agg #[.pointer (some ⟨4, 131, none⟩)])]).run Tryd.prog w = .ok (.bool false) w := by kernel_rfl
theorem asAssignTR (w : World) : (ReflectliteType.relation "AssignableTo" ReflectliteType.assignableTo #[.agg #[.pointer (some ⟨4, 129, none⟩)], .iface 181 (.agg #[.pointer (some ⟨4, 131, none⟩)])]).run Tryd.prog w = .ok (.bool false) w := by kernel_rfl
theorem asAssignVL (w : World) : (ReflectliteType.relation "AssignableTo" ReflectliteType.assignableTo #[.agg #[.pointer (some ⟨4, 130, none⟩)], .iface 181 (.agg #[.pointer (some ⟨4, 132, none⟩)])]).run Tryd.prog w = .ok (.bool false) w := by kernel_rfl
theorem asAssignRL (w : World) : (ReflectliteType.relation "AssignableTo" ReflectliteType.assignableTo #[.agg #[.pointer (some ⟨4, 131, none⟩)], .iface 181 (.agg #[.pointer (some ⟨4, 132, none⟩)])]).run Tryd.prog w = .ok (.bool false) w := by kernel_rfl
theorem asAssignLL (w : World) : (ReflectliteType.relation "AssignableTo" ReflectliteType.assignableTo #[.agg #[.pointer (some ⟨4, 132, none⟩)], .iface 181 (.agg #[.pointer (some ⟨4, 132, none⟩)])]).run Tryd.prog w = .ok (.bool true) w := by kernel_rfl
theorem asAssignTL (w : World) : (ReflectliteType.relation "AssignableTo" ReflectliteType.assignableTo #[.agg #[.pointer (some ⟨4, 129, none⟩)], .iface 181 (.agg #[.pointer (some ⟨4, 132, none⟩)])]).run Tryd.prog w = .ok (.bool false) w := by kernel_rfl
end Go.Proofs.YtppohghejhcilaaDoor
