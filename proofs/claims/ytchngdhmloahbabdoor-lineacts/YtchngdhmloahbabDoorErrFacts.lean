/- errors.As at the target **api.Fault and errors.Is at a sentinel, by their contracts, over the translation: closed facts on the model's entries at this dump's numbers, then Go's own text walked. -/
import Derived.Test.YtchngdhmloahbabDoorProg
import Derived.WalkKit
import Derived.WalkSpells
import Derived.Below
import Derived.LaidEql
import Derived.Stop.Asserts
import Derived.RowKitTokens
import Derived.KernelRfl
namespace Go.Proofs.YtchngdhmloahbabDoor
open Go.RowKit Go.Extern.Stop Go.Stop Go.Extern

/- errors.As: the entries of internal/reflectlite -/
theorem Tryd.xValueOfPP (t : Addr) (w : World) : (ReflectliteValue.unpack (.iface 73 (.pointer (some t)))).run Tryd.prog w
    = .ok (.agg #[.pointer (some ⟨13, 73, none⟩), .pointer (some ⟨w.heap.size, 0, none⟩), .int .u64 150]) (w.alloc (.cells #[.pointer (some t)] 73)) := by kernel_rfl
theorem Tryd.xTypePP (a : Addr) (w : World) : (ReflectliteValue.methodAny (ReflectliteValue.valueError "reflectlite.Value.Type" 0) (fun t _ _ _ => ReflectliteType.toType t) #[.agg #[.pointer (some ⟨13, 73, none⟩), .pointer (some a), .int .u64 150]]).run Tryd.prog w
    = .ok (.iface 95 (.agg #[.pointer (some ⟨13, 73, none⟩)])) w := by kernel_rfl
theorem Tryd.xMethodKind (h : Value) (w : World) : (Go.method 242 95 (.agg #[h]) "Kind").run Tryd.prog w = .ok (59, h) w := by kernel_rfl
theorem Tryd.xKindPP (w : World) : ((ReflectliteType.abiMethod fun t => Functor.map (fun a : Nat => Value.int IntKind.u8 (a : Int)) (Rtype.kind t)) #[.pointer (some ⟨13, 73, none⟩)]).run Tryd.prog w = .ok (.int .u8 22) w := by kernel_rfl
theorem Tryd.xKindP (w : World) : ((ReflectliteType.abiMethod fun t => Functor.map (fun a : Nat => Value.int IntKind.u8 (a : Int)) (Rtype.kind t)) #[.pointer (some ⟨13, 71, none⟩)]).run Tryd.prog w = .ok (.int .u8 22) w := by kernel_rfl
theorem Tryd.xIsNilPP (a p : Addr) (W : World) (ha : W.cell? a = some (.pointer (some p))) :
    (ReflectliteValue.method (ReflectliteValue.valueError "reflectlite.Value.IsNil" 0) ReflectliteValue.isNil #[.agg #[.pointer (some ⟨13, 73, none⟩), .pointer (some a), .int .u64 150]]).run Tryd.prog W = .ok (.bool false) W := by
  rw [show (ReflectliteValue.method (ReflectliteValue.valueError "reflectlite.Value.IsNil" 0) ReflectliteValue.isNil #[.agg #[.pointer (some ⟨13, 73, none⟩), .pointer (some a), .int .u64 150]]).run Tryd.prog W = (ReflectliteValue.isNil 73 a 150 22).run Tryd.prog W by kernel_rfl]
  simp [ReflectliteValue.isNil, loadVar, isAgg, underlying, Tryd.underlying73, ha, Result.andThen]
theorem Tryd.xMethodElem (h : Value) (w : World) : (Go.method 242 95 (.agg #[h]) "Elem").run Tryd.prog w = .ok (70, .agg #[h]) w := by kernel_rfl
theorem Tryd.xMethodImplements (h : Value) (w : World) : (Go.method 242 95 (.agg #[h]) "Implements").run Tryd.prog w = .ok (71, .agg #[h]) w := by kernel_rfl
theorem Tryd.xMethodAssignableTo (h : Value) (w : World) : (Go.method 242 95 (.agg #[h]) "AssignableTo").run Tryd.prog w = .ok (68, .agg #[h]) w := by kernel_rfl
theorem Tryd.xElemPP (w : World) : (ReflectliteType.method ReflectliteType.elem #[.agg #[.pointer (some ⟨13, 73, none⟩)]]).run Tryd.prog w = .ok (.iface 95 (.agg #[.pointer (some ⟨13, 71, none⟩)])) w := by kernel_rfl
theorem Tryd.xImplementsP (w : World) : (ReflectliteType.relation "Implements" ReflectliteType.implements_ #[.agg #[.pointer (some ⟨13, 71, none⟩)], .iface 95 (.agg #[.pointer (some ⟨13, 32, none⟩)])]).run Tryd.prog w = .ok (.bool true) w := by kernel_rfl
theorem Tryd.xTypeOfP (v : Value) (w : World) : (ReflectliteType.typeOf #[.iface 71 v]).run Tryd.prog w = .ok (.iface 95 (.agg #[.pointer (some ⟨13, 71, none⟩)])) w := by kernel_rfl
theorem Tryd.xTypeOfS (v : Value) (w : World) : (ReflectliteType.typeOf #[.iface 109 v]).run Tryd.prog w = .ok (.iface 95 (.agg #[.pointer (some ⟨13, 109, none⟩)])) w := by kernel_rfl
theorem Tryd.xAssignableP (w : World) : (ReflectliteType.relation "AssignableTo" ReflectliteType.assignableTo #[.agg #[.pointer (some ⟨13, 71, none⟩)], .iface 95 (.agg #[.pointer (some ⟨13, 71, none⟩)])]).run Tryd.prog w = .ok (.bool true) w := by kernel_rfl
theorem Tryd.xAssignableS (w : World) : (ReflectliteType.relation "AssignableTo" ReflectliteType.assignableTo #[.agg #[.pointer (some ⟨13, 109, none⟩)], .iface 95 (.agg #[.pointer (some ⟨13, 71, none⟩)])]).run Tryd.prog w = .ok (.bool false) w := by kernel_rfl
theorem Tryd.xValueOfP (e : Addr) (w : World) : (ReflectliteValue.unpack (.iface 71 (.pointer (some e)))).run Tryd.prog w
    = .ok (.agg #[.pointer (some ⟨13, 71, none⟩), .pointer (some ⟨w.heap.size, 0, none⟩), .int .u64 150]) (w.alloc (.cells #[.pointer (some e)] 71)) := by kernel_rfl
theorem Tryd.xElemOfPP (w : World) : (Rtype.elem? 73).run Tryd.prog w = .ok (some 71) w := by kernel_rfl
theorem Tryd.xMkP (p : Addr) (w : World) : (ReflectliteValue.mk 71 p ReflectliteValue.flagAddr).run Tryd.prog w = .ok (.agg #[.pointer (some ⟨13, 71, none⟩), .pointer (some p), .int .u64 406]) w := by kernel_rfl
theorem Tryd.xElemVPP (a p : Addr) (W : World) (ha : W.cell? a = some (.pointer (some p))) :
    (ReflectliteValue.method (ReflectliteValue.valueError "reflectlite.Value.Elem" 0) ReflectliteValue.elem #[.agg #[.pointer (some ⟨13, 73, none⟩), .pointer (some a), .int .u64 150]]).run Tryd.prog W
      = .ok (.agg #[.pointer (some ⟨13, 71, none⟩), .pointer (some p), .int .u64 406]) W := by
  rw [show (ReflectliteValue.method (ReflectliteValue.valueError "reflectlite.Value.Elem" 0) ReflectliteValue.elem #[.agg #[.pointer (some ⟨13, 73, none⟩), .pointer (some a), .int .u64 150]]).run Tryd.prog W = (ReflectliteValue.elem 73 a 150 22).run Tryd.prog W by kernel_rfl]
  simp [ReflectliteValue.elem, loadVar, isAgg, underlying, Tryd.underlying73, ha, Result.andThen, Tryd.xElemOfPP, Tryd.xMkP]
theorem Tryd.xSetP (ta b e : Addr) (old : Value) (W : World) (hb : W.cell? b = some (.pointer (some e))) (ht : W.cell? ta = some old) (hf : W.frozen? ta = false) :
    (ReflectliteValue.set #[.agg #[.pointer (some ⟨13, 71, none⟩), .pointer (some ta), .int .u64 406], .agg #[.pointer (some ⟨13, 71, none⟩), .pointer (some b), .int .u64 150]]).run Tryd.prog W
      = .ok (.tuple #[]) (W.setCell ta (.pointer (some e))) := by
  rw [show (ReflectliteValue.set #[.agg #[.pointer (some ⟨13, 71, none⟩), .pointer (some ta), .int .u64 406], .agg #[.pointer (some ⟨13, 71, none⟩), .pointer (some b), .int .u64 150]]).run Tryd.prog W =
    ((do let x ← loadVar 71 b
         storeVar 71 ta x
         pure (.tuple #[])) : Sem Value).run Tryd.prog W by kernel_rfl]
  simp [loadVar, isAgg, underlying, Tryd.underlying71, hb, Result.andThen, storeVar, Value.cells, storeCells, Addr.add]
  rw [run_store Tryd.prog W ta _ _ (by rfl)]
  simp [ht, hf]

/- what the assertions find: neither a sentinel nor a Fault has As or Is; a sentinel has no Unwrap, a Fault has one -/
theorem Tryd.xNoAsS (v : Value) (xT : TypeId) (w : World) : (Instr.typeAssert (.iface 109 v) xT 99 true).run Tryd.prog w = .ok (.tuple #[.nilIface, .bool false]) w := run_typeAssert_lacksB Tryd.underlying99 (by kernel_rfl) (by kernel_rfl) v xT w
theorem Tryd.xNoIsS (v : Value) (xT : TypeId) (w : World) : (Instr.typeAssert (.iface 109 v) xT 106 true).run Tryd.prog w = .ok (.tuple #[.nilIface, .bool false]) w := run_typeAssert_lacksB Tryd.underlying106 (by kernel_rfl) (by kernel_rfl) v xT w
theorem Tryd.xNoUnwrapS (v : Value) (xT : TypeId) (w : World) : (Instr.typeAssert (.iface 109 v) xT 102 true).run Tryd.prog w = .ok (.tuple #[.nilIface, .bool false]) w := run_typeAssert_lacksB Tryd.underlying102 (by kernel_rfl) (by kernel_rfl) v xT w
theorem Tryd.xNoUnwrapsS (v : Value) (xT : TypeId) (w : World) : (Instr.typeAssert (.iface 109 v) xT 104 true).run Tryd.prog w = .ok (.tuple #[.nilIface, .bool false]) w := run_typeAssert_lacksB Tryd.underlying104 (by kernel_rfl) (by kernel_rfl) v xT w
theorem Tryd.xNoIsP (v : Value) (xT : TypeId) (w : World) : (Instr.typeAssert (.iface 71 v) xT 106 true).run Tryd.prog w = .ok (.tuple #[.nilIface, .bool false]) w := run_typeAssert_lacksB Tryd.underlying106 (by kernel_rfl) (by kernel_rfl) v xT w
theorem Tryd.xHasUnwrapP (v : Value) (xT : TypeId) (w : World) : (Instr.typeAssert (.iface 71 v) xT 102 true).run Tryd.prog w = .ok (.tuple #[.iface 71 v, .bool true]) w := run_typeAssert_hasB Tryd.underlying102 (by kernel_rfl) v xT w
theorem Tryd.xMethodUnwrap (v : Value) (w : World) : (Go.method 242 71 v "Unwrap").run Tryd.prog w = .ok (63, v) w := by kernel_rfl
def xCmp : Array Value → Sem Value := ReflectliteType.method fun t => do Rtype.noPackHeld "Comparable" t; pure (.bool (← typeInfo t).comparable)
theorem Tryd.xComparable (w : World) : (xCmp #[.agg #[.pointer (some ⟨13, 109, none⟩)]]).run Tryd.prog w = .ok (.bool true) w := by kernel_rfl
theorem Tryd.xMethodComparable (v : Value) (w : World) : (Go.method 242 95 v "Comparable").run Tryd.prog w = .ok (69, v) w := by kernel_rfl
theorem Tryd.xComp : (Tryd.prog.info? 109).map (·.comparable) = some true := by kernel_rfl
theorem Tryd.xSize : (Tryd.prog.info? 130).map (·.size) = some 1 := by kernel_rfl
end Go.Proofs.YtchngdhmloahbabDoor
