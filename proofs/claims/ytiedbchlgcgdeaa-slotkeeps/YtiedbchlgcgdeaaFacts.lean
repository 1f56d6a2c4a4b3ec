/-
  CLOSED FACTS ON THE MODEL OF internal/reflectlite at this translation: what a handle of the types Fault, Code, *Fault, *Code and *errorString answers; what the assertions of errors.Is and errors.As answer at them. No condition.
-/
import Derived.Test.YtiedbchlgcgdeaaProg
import Derived.WalkKit
import Derived.WalkSpells
import Derived.LaidEql
import Derived.Stop.Asserts
import Derived.RowKitTokens
import Derived.Below
namespace Go.Proofs.Ytiedbchlgcgdeaa
open Go.RowKit Go.Extern.Stop Go.Stop Go.Extern

theorem kind60 (w : World) : ((ReflectliteType.abiMethod fun t => (fun a : Nat => Value.int IntKind.u8 (a : Int)) <$> Rtype.kind t) #[.pointer (some ⟨0, 74, none⟩)]).run Try.prog w = .ok (.int .u8 25) w := by kernel_rfl
theorem kind32 (w : World) : ((ReflectliteType.abiMethod fun t => (fun a : Nat => Value.int IntKind.u8 (a : Int)) <$> Rtype.kind t) #[.pointer (some ⟨0, 46, none⟩)]).run Try.prog w = .ok (.int .u8 2) w := by kernel_rfl
theorem parts60a (a : Addr) (w : World) : (ReflectliteValue.parts (.agg #[.pointer (some ⟨0, 74, none⟩), .pointer (some a), .int .u64 409])).run Try.prog w = .ok (some (74, a, 409)) w := by kernel_rfl
theorem parts60 (a : Addr) (w : World) : (ReflectliteValue.parts (.agg #[.pointer (some ⟨0, 74, none⟩), .pointer (some a), .int .u64 153])).run Try.prog w = .ok (some (74, a, 153)) w := by kernel_rfl
theorem parts32a (a : Addr) (w : World) : (ReflectliteValue.parts (.agg #[.pointer (some ⟨0, 46, none⟩), .pointer (some a), .int .u64 386])).run Try.prog w = .ok (some (46, a, 386)) w := by kernel_rfl
theorem parts32 (a : Addr) (w : World) : (ReflectliteValue.parts (.agg #[.pointer (some ⟨0, 46, none⟩), .pointer (some a), .int .u64 130])).run Try.prog w = .ok (some (46, a, 130)) w := by kernel_rfl
theorem valueOf60 (x y z : Value) (w : World) : (ReflectliteValue.unpack (.iface 74 (.agg #[x, y, z]))).run Try.prog w
    = .ok (.agg #[.pointer (some ⟨0, 74, none⟩), .pointer (some ⟨w.heap.size, 0, none⟩), .int .u64 153]) (w.alloc (.cells #[x, y, z] 74)) := by kernel_rfl
theorem valueOf32 (x : Int) (w : World) : (ReflectliteValue.unpack (.iface 46 (.int .i64 x))).run Try.prog w
    = .ok (.agg #[.pointer (some ⟨0, 46, none⟩), .pointer (some ⟨w.heap.size, 0, none⟩), .int .u64 130]) (w.alloc (.cells #[.int .i64 x] 46)) := by kernel_rfl
theorem implements60 (w : World) : (ReflectliteType.relation "Implements" ReflectliteType.implements_ #[.agg #[.pointer (some ⟨0, 74, none⟩)], .iface 97 (.agg #[.pointer (some ⟨0, 29, none⟩)])]).run Try.prog w = .ok (.bool true) w := by kernel_rfl
theorem implements32 (w : World) : (ReflectliteType.relation "Implements" ReflectliteType.implements_ #[.agg #[.pointer (some ⟨0, 46, none⟩)], .iface 97 (.agg #[.pointer (some ⟨0, 29, none⟩)])]).run Try.prog w = .ok (.bool true) w := by kernel_rfl
theorem typeOf60 (v : Value) (w : World) : (ReflectliteType.typeOf #[.iface 74 v]).run Try.prog w = .ok (.iface 97 (.agg #[.pointer (some ⟨0, 74, none⟩)])) w := by kernel_rfl
theorem typeOf32 (v : Value) (w : World) : (ReflectliteType.typeOf #[.iface 46 v]).run Try.prog w = .ok (.iface 97 (.agg #[.pointer (some ⟨0, 46, none⟩)])) w := by kernel_rfl
theorem assign6060 (w : World) : (ReflectliteType.relation "AssignableTo" ReflectliteType.assignableTo #[.agg #[.pointer (some ⟨0, 74, none⟩)], .iface 97 (.agg #[.pointer (some ⟨0, 74, none⟩)])]).run Try.prog w = .ok (.bool true) w := by kernel_rfl
theorem assign3260 (w : World) : (ReflectliteType.relation "AssignableTo" ReflectliteType.assignableTo #[.agg #[.pointer (some ⟨0, 46, none⟩)], .iface 97 (.agg #[.pointer (some ⟨0, 74, none⟩)])]).run Try.prog w = .ok (.bool false) w := by kernel_rfl
theorem assign6032 (w : World) : (ReflectliteType.relation "AssignableTo" ReflectliteType.assignableTo #[.agg #[.pointer (some ⟨0, 74, none⟩)], .iface 97 (.agg #[.pointer (some ⟨0, 46, none⟩)])]).run Try.prog w = .ok (.bool false) w := by kernel_rfl
theorem assign3232 (w : World) : (ReflectliteType.relation "AssignableTo" ReflectliteType.assignableTo #[.agg #[.pointer (some ⟨0, 46, none⟩)], .iface 97 (.agg #[.pointer (some ⟨0, 46, none⟩)])]).run Try.prog w = .ok (.bool true) w := by kernel_rfl
theorem comparable32 (w : World) : (ReflectliteType.method (fun t => do Rtype.noPackHeld "Comparable" t; pure (.bool (← typeInfo t).comparable)) #[.agg #[.pointer (some ⟨0, 46, none⟩)]]).run Try.prog w = .ok (.bool true) w := by kernel_rfl
theorem mElem (h : Value) (w : World) : (Go.method 267 97 (.agg #[h]) "Elem").run Try.prog w = .ok (91, .agg #[h]) w := by kernel_rfl
theorem mKind (h : Value) (w : World) : (Go.method 267 97 (.agg #[h]) "Kind").run Try.prog w = .ok (87, h) w := by kernel_rfl
theorem mImplements (h : Value) (w : World) : (Go.method 267 97 (.agg #[h]) "Implements").run Try.prog w = .ok (92, .agg #[h]) w := by kernel_rfl
theorem mAssignableTo (h : Value) (w : World) : (Go.method 267 97 (.agg #[h]) "AssignableTo").run Try.prog w = .ok (89, .agg #[h]) w := by kernel_rfl
theorem mComparable (h : Value) (w : World) : (Go.method 267 97 (.agg #[h]) "Comparable").run Try.prog w = .ok (90, .agg #[h]) w := by kernel_rfl
theorem mUnwrap (x y z : Value) (w : World) : (Go.method 267 74 (.agg #[x, y, z]) "Unwrap").run Try.prog w = .ok (86, .agg #[x, y, z]) w := by kernel_rfl
theorem mk60 (p : Addr) (w : World) : (ReflectliteValue.mk 74 p ReflectliteValue.flagAddr).run Try.prog w = .ok (.agg #[.pointer (some ⟨0, 74, none⟩), .pointer (some p), .int .u64 409]) w := by kernel_rfl
theorem mk32 (p : Addr) (w : World) : (ReflectliteValue.mk 46 p ReflectliteValue.flagAddr).run Try.prog w = .ok (.agg #[.pointer (some ⟨0, 46, none⟩), .pointer (some p), .int .u64 386]) w := by kernel_rfl
theorem direct60 (w : World) : (Rtype.directlyAssignable 74 74).run Try.prog w = .ok true w := by kernel_rfl
theorem direct32 (w : World) : (Rtype.directlyAssignable 46 46).run Try.prog w = .ok true w := by kernel_rfl
theorem noIs60 (v : Value) (xT : TypeId) (w : World) : (Instr.typeAssert (.iface 74 v) xT 99 true).run Try.prog w = .ok (.tuple #[.nilIface, .bool false]) w := run_typeAssert_lacksB Try.underlying99 (by kernel_rfl) (by kernel_rfl) v xT w
theorem noIs32 (v : Value) (xT : TypeId) (w : World) : (Instr.typeAssert (.iface 46 v) xT 99 true).run Try.prog w = .ok (.tuple #[.nilIface, .bool false]) w := run_typeAssert_lacksB Try.underlying99 (by kernel_rfl) (by kernel_rfl) v xT w
theorem unwraps60 (v : Value) (xT : TypeId) (w : World) : (Instr.typeAssert (.iface 74 v) xT 102 true).run Try.prog w = .ok (.tuple #[.iface 74 v, .bool true]) w := run_typeAssert_hasB Try.underlying102 (by kernel_rfl) v xT w
theorem noUnwrap32 (v : Value) (xT : TypeId) (w : World) : (Instr.typeAssert (.iface 46 v) xT 102 true).run Try.prog w = .ok (.tuple #[.nilIface, .bool false]) w := run_typeAssert_lacksB Try.underlying102 (by kernel_rfl) (by kernel_rfl) v xT w
theorem noUnwraps32 (v : Value) (xT : TypeId) (w : World) : (Instr.typeAssert (.iface 46 v) xT 104 true).run Try.prog w = .ok (.tuple #[.nilIface, .bool false]) w := run_typeAssert_lacksB Try.underlying104 (by kernel_rfl) (by kernel_rfl) v xT w
theorem size60 (w : World) : (sizeOf 74).run Try.prog w = .ok 3 w := by kernel_rfl
theorem h34 (args : Array Value) (w : World) : (callFunc 40 args).run Try.prog w = ((ReflectliteType.typeOf args).run Try.prog w).andThen fun v w' => .ok (.value v) w' := run_callFunc_extern Try.func40 (by kernel_rfl) (by kernel_rfl) (by kernel_rfl) (by kernel_rfl) args w
theorem h60 (args : Array Value) (w : World) : (callFunc 87 args).run Try.prog w = (((ReflectliteType.abiMethod fun t => do pure (.int .u8 (← Rtype.kind t))) args).run Try.prog w).andThen fun v w' => .ok (.value v) w' := run_callFunc_extern Try.func87 (by kernel_rfl) (by kernel_rfl) (by kernel_rfl) (by kernel_rfl) args w
theorem h68 (args : Array Value) (w : World) : (callFunc 89 args).run Try.prog w = (((ReflectliteType.relation "AssignableTo" ReflectliteType.assignableTo) args).run Try.prog w).andThen fun v w' => .ok (.value v) w' := run_callFunc_extern Try.func89 (by kernel_rfl) (by kernel_rfl) (by kernel_rfl) (by kernel_rfl) args w
theorem h69 (args : Array Value) (w : World) : (callFunc 90 args).run Try.prog w = (((ReflectliteType.method fun t => do Rtype.noPackHeld "Comparable" t; pure (.bool (← typeInfo t).comparable)) args).run Try.prog w).andThen fun v w' => .ok (.value v) w' := run_callFunc_extern Try.func90 (by kernel_rfl) (by kernel_rfl) (by kernel_rfl) (by kernel_rfl) args w
theorem h70 (args : Array Value) (w : World) : (callFunc 91 args).run Try.prog w = (((ReflectliteType.method ReflectliteType.elem) args).run Try.prog w).andThen fun v w' => .ok (.value v) w' := run_callFunc_extern Try.func91 (by kernel_rfl) (by kernel_rfl) (by kernel_rfl) (by kernel_rfl) args w
theorem h71 (args : Array Value) (w : World) : (callFunc 92 args).run Try.prog w = (((ReflectliteType.relation "Implements" ReflectliteType.implements_) args).run Try.prog w).andThen fun v w' => .ok (.value v) w' := run_callFunc_extern Try.func92 (by kernel_rfl) (by kernel_rfl) (by kernel_rfl) (by kernel_rfl) args w
end Go.Proofs.Ytiedbchlgcgdeaa
