/- errors.As at the target **api.Fault and errors.Is at a sentinel, by their contracts, over the translation: closed facts on the model's entries at this dump's numbers, then Go's own text walked. -/
import Derived.Test.YtfpmmgboodcfiaaDoorProg
import Derived.WalkKit
import Derived.WalkSpells
import Derived.Below
import Derived.LaidEql
import Derived.Stop.Asserts
import Derived.RowKitTokens
import Derived.KernelRfl
namespace Go.Proofs.YtfpmmgboodcfiaaDoor
open Go.RowKit Go.Extern.Stop Go.Stop Go.Extern

/- errors.As: the entries of internal/reflectlite -/
theorem Tryd.xValueOfPP (t : Addr) (w : World) : (ReflectliteValue.unpack (.iface 83 (.pointer (some t)))).run Tryd.prog w
    = .ok (.agg #[.pointer (some ⟨13, 83, none⟩), .pointer (some ⟨w.heap.size, 0, none⟩), .int .u64 150]) (w.alloc (.cells #[.pointer (some t)] 83)) := by kernel_rfl
theorem Tryd.xTypePP (a : Addr) (w : World) : (ReflectliteValue.methodAny (ReflectliteValue.valueError "reflectlite.Value.Type" 0) (fun t _ _ _ => ReflectliteType.toType t) #[.agg #[.pointer (some ⟨13, 83, none⟩), .pointer (some a), .int .u64 150]]).run Tryd.prog w
    = .ok (.iface 123 (.agg #[.pointer (some ⟨13, 83, none⟩)])) w := by kernel_rfl
theorem Tryd.xMethodKind (h : Value) (w : World) : (Go.method 278 123 (.agg #[h]) "Kind").run Tryd.prog w = .ok (87, h) w := by kernel_rfl
theorem Tryd.xKindPP (w : World) : ((ReflectliteType.abiMethod fun t => Functor.map (fun a : Nat => Value.int IntKind.u8 (a : Int)) (Rtype.kind t)) #[.pointer (some ⟨13, 83, none⟩)]).run Tryd.prog w = .ok (.int .u8 22) w := by kernel_rfl
theorem Tryd.xKindP (w : World) : ((ReflectliteType.abiMethod fun t => Functor.map (fun a : Nat => Value.int IntKind.u8 (a : Int)) (Rtype.kind t)) #[.pointer (some ⟨13, 81, none⟩)]).run Tryd.prog w = .ok (.int .u8 22) w := by kernel_rfl
theorem Tryd.xIsNilPP (a p : Addr) (W : World) (ha : W.cell? a = some (.pointer (some p))) :
    (ReflectliteValue.method (ReflectliteValue.valueError "reflectlite.Value.IsNil" 0) ReflectliteValue.isNil #[.agg #[.pointer (some ⟨13, 83, none⟩), .pointer (some a), .int .u64 150]]).run Tryd.prog W = .ok (.bool false) W := by
  rw [show (ReflectliteValue.method (ReflectliteValue.valueError "reflectlite.Value.IsNil" 0) ReflectliteValue.isNil #[.agg #[.pointer (some ⟨13, 83, none⟩), .pointer (some a), .int .u64 150]]).run Tryd.prog W = (ReflectliteValue.isNil 83 a 150 22).run Tryd.prog W by kernel_rfl]
  simp [ReflectliteValue.isNil, loadVar, isAgg, underlying, Tryd.underlying83, ha, Result.andThen]
theorem Tryd.xMethodElem (h : Value) (w : World) : (Go.method 278 123 (.agg #[h]) "Elem").run Tryd.prog w = .ok (98, .agg #[h]) w := by kernel_rfl
theorem Tryd.xMethodImplements (h : Value) (w : World) : (Go.method 278 123 (.agg #[h]) "Implements").run Tryd.prog w = .ok (99, .agg #[h]) w := by kernel_rfl
theorem Tryd.xMethodAssignableTo (h : Value) (w : World) : (Go.method 278 123 (.agg #[h]) "AssignableTo").run Tryd.prog w = .ok (96, .agg #[h]) w := by kernel_rfl
theorem Tryd.xElemPP (w : World) : (ReflectliteType.method ReflectliteType.elem #[.agg #[.pointer (some ⟨13, 83, none⟩)]]).run Tryd.prog w = .ok (.iface 123 (.agg #[.pointer (some ⟨13, 81, none⟩)])) w := by kernel_rfl
theorem Tryd.xImplementsP (w : World) : (ReflectliteType.relation "Implements" ReflectliteType.implements_ #[.agg #[.pointer (some ⟨13, 81, none⟩)], .iface 123 (.agg #[.pointer (some ⟨13, 32, none⟩)])]).run Tryd.prog w = .ok (.bool true) w := by kernel_rfl
theorem Tryd.xTypeOfP (v : Value) (w : World) : (ReflectliteType.typeOf #[.iface 81 v]).run Tryd.prog w = .ok (.iface 123 (.agg #[.pointer (some ⟨13, 81, none⟩)])) w := by kernel_rfl
theorem Tryd.xTypeOfS (v : Value) (w : World) : (ReflectliteType.typeOf #[.iface 145 v]).run Tryd.prog w = .ok (.iface 123 (.agg #[.pointer (some ⟨13, 145, none⟩)])) w := by kernel_rfl
theorem Tryd.xAssignableP (w : World) : (ReflectliteType.relation "AssignableTo" ReflectliteType.assignableTo #[.agg #[.pointer (some ⟨13, 81, none⟩)], .iface 123 (.agg #[.pointer (some ⟨13, 81, none⟩)])]).run Tryd.prog w = .ok (.bool true) w := by kernel_rfl
theorem Tryd.xAssignableS (w : World) : (ReflectliteType.relation "AssignableTo" ReflectliteType.assignableTo #[.agg #[.pointer (some ⟨13, 145, none⟩)], .iface 123 (.agg #[.pointer (some ⟨13, 81, none⟩)])]).run Tryd.prog w = .ok (.bool false) w := by kernel_rfl
theorem Tryd.xValueOfP (e : Addr) (w : World) : (ReflectliteValue.unpack (.iface 81 (.pointer (some e)))).run Tryd.prog w
    = .ok (.agg #[.pointer (some ⟨13, 81, none⟩), .pointer (some ⟨w.heap.size, 0, none⟩), .int .u64 150]) (w.alloc (.cells #[.pointer (some e)] 81)) := by kernel_rfl
theorem Tryd.xElemOfPP (w : World) : (Rtype.elem? 83).run Tryd.prog w = .ok (some 81) w := by kernel_rfl
theorem Tryd.xMkP (p : Addr) (w : World) : (ReflectliteValue.mk 81 p ReflectliteValue.flagAddr).run Tryd.prog w = .ok (.agg #[.pointer (some ⟨13, 81, none⟩), .pointer (some p), .int .u64 406]) w := by kernel_rfl
theorem Tryd.xElemVPP (a p : Addr) (W : World) (ha : W.cell? a = some (.pointer (some p))) :
    (ReflectliteValue.method (ReflectliteValue.valueError "reflectlite.Value.Elem" 0) ReflectliteValue.elem #[.agg #[.pointer (some ⟨13, 83, none⟩), .pointer (some a), .int .u64 150]]).run Tryd.prog W
      = .ok (.agg #[.pointer (some ⟨13, 81, none⟩), .pointer (some p), .int .u64 406]) W := by
  rw [show (ReflectliteValue.method (ReflectliteValue.valueError "reflectlite.Value.Elem" 0) ReflectliteValue.elem #[.agg #[.pointer (some ⟨13, 83, none⟩), .pointer (some a), .int .u64 150]]).run Tryd.prog W = (ReflectliteValue.elem 83 a 150 22).run Tryd.prog W by kernel_rfl]
  simp [ReflectliteValue.elem, loadVar, isAgg, underlying, Tryd.underlying83, ha, Result.andThen, Tryd.xElemOfPP, Tryd.xMkP]
theorem Tryd.xSetP (ta b e : Addr) (old : Value) (W : World) (hb : W.cell? b = some (.pointer (some e))) (ht : W.cell? ta = some old) (hf : W.frozen? ta = false) :
    (ReflectliteValue.set #[.agg #[.pointer (some ⟨13, 81, none⟩), .pointer (some ta), .int .u64 406], .agg #[.pointer (some ⟨13, 81, none⟩), .pointer (some b), .int .u64 150]]).run Tryd.prog W
      = .ok (.tuple #[]) (W.setCell ta (.pointer (some e))) := by
  rw [show (ReflectliteValue.set #[.agg #[.pointer (some ⟨13, 81, none⟩), .pointer (some ta), .int .u64 406], .agg #[.pointer (some ⟨13, 81, none⟩), .pointer (some b), .int .u64 150]]).run Tryd.prog W =
    ((do let x ← loadVar 81 b
         storeVar 81 ta x
         pure (.tuple #[])) : Sem Value).run Tryd.prog W by kernel_rfl]
  simp [loadVar, isAgg, underlying, Tryd.underlying81, hb, Result.andThen, storeVar, Value.cells, storeCells, Addr.add]
  rw [run_store Tryd.prog W ta _ _ (by rfl)]
  simp [ht, hf]

/- what the assertions find: neither a sentinel nor a Fault has As or Is; a sentinel has no Unwrap, a Fault has one -/
theorem Tryd.xNoAsS (v : Value) (xT : TypeId) (w : World) : (Instr.typeAssert (.iface 145 v) xT 127 true).run Tryd.prog w = .ok (.tuple #[.nilIface, .bool false]) w := run_typeAssert_lacksB Tryd.underlying127 (by kernel_rfl) (by kernel_rfl) v xT w
theorem Tryd.xNoIsS (v : Value) (xT : TypeId) (w : World) : (Instr.typeAssert (.iface 145 v) xT 134 true).run Tryd.prog w = .ok (.tuple #[.nilIface, .bool false]) w := run_typeAssert_lacksB Tryd.underlying134 (by kernel_rfl) (by kernel_rfl) v xT w
theorem Tryd.xNoUnwrapS (v : Value) (xT : TypeId) (w : World) : (Instr.typeAssert (.iface 145 v) xT 130 true).run Tryd.prog w = .ok (.tuple #[.nilIface, .bool false]) w := run_typeAssert_lacksB Tryd.underlying130 (by kernel_rfl) (by kernel_rfl) v xT w
theorem Tryd.xNoUnwrapsS (v : Value) (xT : TypeId) (w : World) : (Instr.typeAssert (.iface 145 v) xT 132 true).run Tryd.prog w = .ok (.tuple #[.nilIface, .bool false]) w := run_typeAssert_lacksB Tryd.underlying132 (by kernel_rfl) (by kernel_rfl) v xT w
theorem Tryd.xNoIsP (v : Value) (xT : TypeId) (w : World) : (Instr.typeAssert (.iface 81 v) xT 134 true).run Tryd.prog w = .ok (.tuple #[.nilIface, .bool false]) w := run_typeAssert_lacksB Tryd.underlying134 (by kernel_rfl) (by kernel_rfl) v xT w
theorem Tryd.xHasUnwrapP (v : Value) (xT : TypeId) (w : World) : (Instr.typeAssert (.iface 81 v) xT 130 true).run Tryd.prog w = .ok (.tuple #[.iface 81 v, .bool true]) w := run_typeAssert_hasB Tryd.underlying130 (by kernel_rfl) v xT w
theorem Tryd.xMethodUnwrap (v : Value) (w : World) : (Go.method 278 81 v "Unwrap").run Tryd.prog w = .ok (91, v) w := by kernel_rfl
def xCmp : Array Value → Sem Value := ReflectliteType.method fun t => do Rtype.noPackHeld "Comparable" t; pure (.bool (← typeInfo t).comparable)
theorem Tryd.xComparable (w : World) : (xCmp #[.agg #[.pointer (some ⟨13, 145, none⟩)]]).run Tryd.prog w = .ok (.bool true) w := by kernel_rfl
theorem Tryd.xMethodComparable (v : Value) (w : World) : (Go.method 278 123 v "Comparable").run Tryd.prog w = .ok (97, v) w := by kernel_rfl
theorem Tryd.xComp : (Tryd.prog.info? 145).map (·.comparable) = some true := by kernel_rfl
theorem Tryd.xSize : (Tryd.prog.info? 166).map (·.size) = some 1 := by kernel_rfl
end Go.Proofs.YtfpmmgboodcfiaaDoor
