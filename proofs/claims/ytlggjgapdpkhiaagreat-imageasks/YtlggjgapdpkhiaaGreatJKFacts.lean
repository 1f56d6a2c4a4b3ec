/-
  CLOSED FACTS ON THE MODEL OF internal/reflectlite at this translation.
-/
import Derived.Test.YtlggjgapdpkhiaaGreatProg
import Derived.WalkKit
import Derived.WalkSpells
import Derived.LaidEql
import Derived.Stop.Asserts
import Derived.RowKitTokens
import Derived.Below
namespace Go.Proofs.YtlggjgapdpkhiaaGreat
open Go.RowKit Go.Extern.Stop Go.Stop Go.Extern
theorem typeOf32 (v : Value) (w : World) : (ReflectliteType.typeOf #[.iface 67 v]).run Tryz.prog w = .ok (.iface 162 (.agg #[.pointer (some ⟨0, 67, none⟩)])) w := by kernel_rfl
theorem mComparable (h : Value) (w : World) : (Go.method 327 162 (.agg #[h]) "Comparable").run Tryz.prog w = .ok (181, .agg #[h]) w := by kernel_rfl
theorem mUnwrap (x y z : Value) (w : World) : (Go.method 327 117 (.agg #[x, y, z]) "Unwrap").run Tryz.prog w = .ok (177, .agg #[x, y, z]) w := by kernel_rfl
theorem noIs60 (v : Value) (xT : TypeId) (w : World) : (Instr.typeAssert (.iface 117 v) xT 164 true).run Tryz.prog w = .ok (.tuple #[.nilIface, .bool false]) w := run_typeAssert_lacksB Tryz.underlying164 (by kernel_rfl) (by kernel_rfl) v xT w
theorem noIs32 (v : Value) (xT : TypeId) (w : World) : (Instr.typeAssert (.iface 67 v) xT 164 true).run Tryz.prog w = .ok (.tuple #[.nilIface, .bool false]) w := run_typeAssert_lacksB Tryz.underlying164 (by kernel_rfl) (by kernel_rfl) v xT w
theorem unwraps60 (v : Value) (xT : TypeId) (w : World) : (Instr.typeAssert (.iface 117 v) xT 167 true).run Tryz.prog w = .ok (.tuple #[.iface 117 v, .bool true]) w := run_typeAssert_hasB Tryz.underlying167 (by kernel_rfl) v xT w
theorem noUnwrap32 (v : Value) (xT : TypeId) (w : World) : (Instr.typeAssert (.iface 67 v) xT 167 true).run Tryz.prog w = .ok (.tuple #[.nilIface, .bool false]) w := run_typeAssert_lacksB Tryz.underlying167 (by kernel_rfl) (by kernel_rfl) v xT w
theorem noUnwraps32 (v : Value) (xT : TypeId) (w : World) : (Instr.typeAssert (.iface 67 v) xT 169 true).run Tryz.prog w = .ok (.tuple #[.nilIface, .bool false]) w := run_typeAssert_lacksB Tryz.underlying169 (by kernel_rfl) (by kernel_rfl) v xT w
theorem h34 (args : Array Value) (w : World) : (callFunc 100 args).run Tryz.prog w = ((ReflectliteType.typeOf args).run Tryz.prog w).andThen fun v w' => .ok (.value v) w' := run_callFunc_extern Tryz.func100 (by kernel_rfl) (by kernel_rfl) (by kernel_rfl) (by kernel_rfl) args w
theorem h69 (args : Array Value) (w : World) : (callFunc 181 args).run Tryz.prog w = (((ReflectliteType.method fun t => do Rtype.noPackHeld "Comparable" t; pure (.bool (← typeInfo t).comparable)) args).run Tryz.prog w).andThen fun v w' => .ok (.value v) w' := run_callFunc_extern Tryz.func181 (by kernel_rfl) (by kernel_rfl) (by kernel_rfl) (by kernel_rfl) args w
end Go.Proofs.YtlggjgapdpkhiaaGreat
