/-
  CLOSED FACTS ON THE MODEL OF internal/reflectlite at this translation: what a handle of the types Fault, Code, *Fault, *Code and *errorString answers; what the assertions of errors.Is and errors.As answer at them. No condition.
-/
import Derived.Test.YtpmpmdlmcpakiaaProg
import Derived.WalkKit
import Derived.WalkSpells
import Derived.LaidEql
import Derived.Stop.Asserts
import Derived.RowKitTokens
import Derived.Below
namespace Go.Proofs.Ytpmpmdlmcpakiaa
open Go.RowKit Go.Extern.Stop Go.Stop Go.Extern

theorem kind60 (w : World) : ((ReflectliteType.abiMethod fun t => (fun a : Nat => Value.int IntKind.u8 (a : Int)) <$> Rtype.kind t) #[.pointer (some ⟨0, 81, none⟩)]).run Try.prog w = .ok (.int .u8 25) w := by kernel_rfl
theorem kind32 (w : World) : ((ReflectliteType.abiMethod fun t => (fun a : Nat => Value.int IntKind.u8 (a : Int)) <$> Rtype.kind t) #[.pointer (some ⟨0, 52, none⟩)]).run Try.prog w = .ok (.int .u8 2) w := by kernel_rfl
theorem parts60a (a : Addr) (w : World) : (ReflectliteValue.parts (.agg #[.pointer (some ⟨0, 81, none⟩), .pointer (some a), .int .u64 409])).run Try.prog w = .ok (some (81, a, 409)) w := by kernel_rfl
theorem parts60 (a : Addr) (w : World) : (ReflectliteValue.parts (.agg #[.pointer (some ⟨0, 81, none⟩), .pointer (some a), .int .u64 153])).run Try.prog w = .ok (some (81, a, 153)) w := by kernel_rfl
theorem parts32a (a : Addr) (w : World) : (ReflectliteValue.parts (.agg #[.pointer (some ⟨0, 52, none⟩), .pointer (some a), .int .u64 386])).run Try.prog w = .ok (some (52, a, 386)) w := by kernel_rfl
theorem parts32 (a : Addr) (w : World) : (ReflectliteValue.parts (.agg #[.pointer (some ⟨0, 52, none⟩), .pointer (some a), .int .u64 130])).run Try.prog w = .ok (some (52, a, 130)) w := by kernel_rfl
theorem valueOf60 (x y z : Value) (w : World) : (ReflectliteValue.unpack (.iface 81 (.agg #[x, y, z]))).run Try.prog w
    = .ok (.agg #[.pointer (some ⟨0, 81, none⟩), .pointer (some ⟨w.heap.size, 0, none⟩), .int .u64 153]) (w.alloc (.cells #[x, y, z] 81)) := by kernel_rfl
theorem valueOf32 (x : Int) (w : World) : (ReflectliteValue.unpack (.iface 52 (.int .i64 x))).run Try.prog w
    = .ok (.agg #[.pointer (some ⟨0, 52, none⟩), .pointer (some ⟨w.heap.size, 0, none⟩), .int .u64 130]) (w.alloc (.cells #[.int .i64 x] 52)) := by kernel_rfl
theorem implements60 (w : World) : (ReflectliteType.relation "Implements" ReflectliteType.implements_ #[.agg #[.pointer (some ⟨0, 81, none⟩)], .iface 108 (.agg #[.pointer (some ⟨0, 34, none⟩)])]).run Try.prog w = .ok (.bool true) w := by kernel_rfl
theorem implements32 (w : World) : (ReflectliteType.relation "Implements" ReflectliteType.implements_ #[.agg #[.pointer (some ⟨0, 52, none⟩)], .iface 108 (.agg #[.pointer (some ⟨0, 34, none⟩)])]).run Try.prog w = .ok (.bool true) w := by kernel_rfl
theorem typeOf60 (v : Value) (w : World) : (ReflectliteType.typeOf #[.iface 81 v]).run Try.prog w = .ok (.iface 108 (.agg #[.pointer (some ⟨0, 81, none⟩)])) w := by kernel_rfl
theorem typeOf32 (v : Value) (w : World) : (ReflectliteType.typeOf #[.iface 52 v]).run Try.prog w = .ok (.iface 108 (.agg #[.pointer (some ⟨0, 52, none⟩)])) w := by kernel_rfl
theorem assign6060 (w : World) : (ReflectliteType.relation "AssignableTo" ReflectliteType.assignableTo #[.agg #[.pointer (some ⟨0, 81, none⟩)], .iface 108 (.agg #[.pointer (some ⟨0, 81, none⟩)])]).run Try.prog w = .ok (.bool true) w := by kernel_rfl
theorem assign3260 (w : World) : (ReflectliteType.relation "AssignableTo" ReflectliteType.assignableTo #[.agg #[.pointer (some ⟨0, 52, none⟩)], .iface 108 (.agg #[.pointer (some ⟨0, 81, none⟩)])]).run Try.prog w = .ok (.bool false) w := by kernel_rfl
theorem assign6032 (w : World) : (ReflectliteType.relation "AssignableTo" ReflectliteType.assignableTo #[.agg #[.pointer (some ⟨0, 81, none⟩)], .iface 108 (.agg #[.pointer (some ⟨0, 52, none⟩)])]).run Try.prog w = .ok (.bool false) w := by kernel_rfl
theorem assign3232 (w : World) : (ReflectliteType.relation "AssignableTo" ReflectliteType.assignableTo #[.agg #[.pointer (some ⟨0, 52, none⟩)], .iface 108 (.agg #[.pointer (some ⟨0, 52, none⟩)])]).run Try.prog w = .ok (.bool true) w := by kernel_rfl
theorem comparable32 (w : World) : (ReflectliteType.method (fun t => do Rtype.noPackHeld "Comparable" t; pure (.bool (← typeInfo t).comparable)) #[.agg #[.pointer (some ⟨0, 52, none⟩)]]).run Try.prog w = .ok (.bool true) w := by kernel_rfl
theorem mElem (h : Value) (w : World) : (Go.method 275 108 (.agg #[h]) "Elem").run Try.prog w = .ok (100, .agg #[h]) w := by kernel_rfl
theorem mKind (h : Value) (w : World) : (Go.method 275 108 (.agg #[h]) "Kind").run Try.prog w = .ok (96, h) w := by kernel_rfl
theorem mImplements (h : Value) (w : World) : (Go.method 275 108 (.agg #[h]) "Implements").run Try.prog w = .ok (101, .agg #[h]) w := by kernel_rfl
theorem mAssignableTo (h : Value) (w : World) : (Go.method 275 108 (.agg #[h]) "AssignableTo").run Try.prog w = .ok (98, .agg #[h]) w := by kernel_rfl
theorem mComparable (h : Value) (w : World) : (Go.method 275 108 (.agg #[h]) "Comparable").run Try.prog w = .ok (99, .agg #[h]) w := by kernel_rfl
theorem mUnwrap (x y z : Value) (w : World) : (Go.method 275 81 (.agg #[x, y, z]) "Unwrap").run Try.prog w = .ok (95, .agg #[x, y, z]) w := by kernel_rfl
theorem mk60 (p : Addr) (w : World) : (ReflectliteValue.mk 81 p ReflectliteValue.flagAddr).run Try.prog w = .ok (.agg #[.pointer (some ⟨0, 81, none⟩), .pointer (some p), .int .u64 409]) w := by kernel_rfl
theorem mk32 (p : Addr) (w : World) : (ReflectliteValue.mk 52 p ReflectliteValue.flagAddr).run Try.prog w = .ok (.agg #[.pointer (some ⟨0, 52, none⟩), .pointer (some p), .int .u64 386]) w := by kernel_rfl
theorem direct60 (w : World) : (Rtype.directlyAssignable 81 81).run Try.prog w = .ok true w := by kernel_rfl
theorem direct32 (w : World) : (Rtype.directlyAssignable 52 52).run Try.prog w = .ok true w := by kernel_rfl
theorem noIs60 (v : Value) (xT : TypeId) (w : World) : (Instr.typeAssert (.iface 81 v) xT 110 true).run Try.prog w = .ok (.tuple #[.nilIface, .bool false]) w := run_typeAssert_lacksB Try.underlying110 (by kernel_rfl) (by kernel_rfl) v xT w
theorem noIs32 (v : Value) (xT : TypeId) (w : World) : (Instr.typeAssert (.iface 52 v) xT 110 true).run Try.prog w = .ok (.tuple #[.nilIface, .bool false]) w := run_typeAssert_lacksB Try.underlying110 (by kernel_rfl) (by kernel_rfl) v xT w
theorem unwraps60 (v : Value) (xT : TypeId) (w : World) : (Instr.typeAssert (.iface 81 v) xT 113 true).run Try.prog w = .ok (.tuple #[.iface 81 v, .bool true]) w := run_typeAssert_hasB Try.underlying113 (by kernel_rfl) v xT w
theorem noUnwrap32 (v : Value) (xT : TypeId) (w : World) : (Instr.typeAssert (.iface 52 v) xT 113 true).run Try.prog w = .ok (.tuple #[.nilIface, .bool false]) w := run_typeAssert_lacksB Try.underlying113 (by kernel_rfl) (by kernel_rfl) v xT w
theorem noUnwraps32 (v : Value) (xT : TypeId) (w : World) : (Instr.typeAssert (.iface 52 v) xT 115 true).run Try.prog w = .ok (.tuple #[.nilIface, .bool false]) w := run_typeAssert_lacksB Try.underlying115 (by kernel_rfl) (by kernel_rfl) v xT w
theorem size60 (w : World) : (sizeOf 81).run Try.prog w = .ok 3 w := by kernel_rfl
theorem h34 (args : Array Value) (w : World) : (callFunc 46 args).run Try.prog w = ((ReflectliteType.typeOf args).run Try.prog w).andThen fun v w' => .ok (.value v) w' := run_callFunc_extern Try.func46 (by kernel_rfl) (by kernel_rfl) (by kernel_rfl) (by kernel_rfl) args w
theorem h60 (args : Array Value) (w : World) : (callFunc 96 args).run Try.prog w = (((ReflectliteType.abiMethod fun t => do pure (.int .u8 (← Rtype.kind t))) args).run Try.prog w).andThen fun v w' => .ok (.value v) w' := run_callFunc_extern Try.func96 (by kernel_rfl) (by kernel_rfl) (by kernel_rfl) (by kernel_rfl) args w
theorem h68 (args : Array Value) (w : World) : (callFunc 98 args).run Try.prog w = (((ReflectliteType.relation "AssignableTo" ReflectliteType.assignableTo) args).run Try.prog w).andThen fun v w' => .ok (.value v) w' := run_callFunc_extern Try.func98 (by kernel_rfl) (by kernel_rfl) (by kernel_rfl) (by kernel_rfl) args w
theorem h69 (args : Array Value) (w : World) : (callFunc 99 args).run Try.prog w = (((ReflectliteType.method fun t => do Rtype.noPackHeld "Comparable" t; pure (.bool (← typeInfo t).comparable)) args).run Try.prog w).andThen fun v w' => .ok (.value v) w' := run_callFunc_extern Try.func99 (by kernel_rfl) (by kernel_rfl) (by kernel_rfl) (by kernel_rfl) args w
theorem h70 (args : Array Value) (w : World) : (callFunc 100 args).run Try.prog w = (((ReflectliteType.method ReflectliteType.elem) args).run Try.prog w).andThen fun v w' => .ok (.value v) w' := run_callFunc_extern Try.func100 (by kernel_rfl) (by kernel_rfl) (by kernel_rfl) (by kernel_rfl) args w
theorem h71 (args : Array Value) (w : World) : (callFunc 101 args).run Try.prog w = (((ReflectliteType.relation "Implements" ReflectliteType.implements_) args).run Try.prog w).andThen fun v w' => .ok (.value v) w' := run_callFunc_extern Try.func101 (by kernel_rfl) (by kernel_rfl) (by kernel_rfl) (by kernel_rfl) args w
end Go.Proofs.Ytpmpmdlmcpakiaa
