/-
  errors.As AT A TARGET OF TYPE *Code, by its contracts: the Code that a chain of Faults ends in is found and the target is set. (A seat without errors.New.) Conditions: errors.errorType holds the handle of the type error, and the target's cell is there and not frozen.
-/
import Derived.Test.YtiedbchlgcgdeaaSlc
import Derived.Test.YtiedbchlgcgdeaaAs
namespace Go.Proofs.Ytiedbchlgcgdeaa
open Go.RowKit Go.Extern.Stop Go.Stop Go.Extern

/-- A chain of Faults, the outermost first, about the error b. -/
def chn : List (ByteArray × Int) → Value → Value
  | [], b => b
  | s :: l, b => .iface 74 (.agg #[.string s.1, .int .i64 s.2, chn l b])
/-- The innermost error: a Code. -/
def bse (k : Int) : Value := .iface 46 (.int .i64 k)

theorem size_inner (x y e : Value) : SizeOf.sizeOf e < SizeOf.sizeOf (Value.iface 74 (.agg #[x, y, e])) := by
  simp
  omega


theorem chn_form (l : List (ByteArray × Int)) (c : Int) : ∃ ty v, chn l (bse c) = .iface ty v := by
  rcases l with _ | ⟨s, l⟩
  · exact ⟨_, _, rfl⟩
  · exact ⟨_, _, rfl⟩

end Go.Proofs.Ytiedbchlgcgdeaa
