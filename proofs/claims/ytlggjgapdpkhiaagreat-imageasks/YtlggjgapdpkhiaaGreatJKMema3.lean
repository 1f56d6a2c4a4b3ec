/-
  THE ENTRIES OF internal/reflectlite THAT READ OR WRITE MEMORY, at this translation.
  errors.As, by its contracts.
  errors.As AT A TARGET OF TYPE *Code, by its contracts.
-/
import Derived.Test.YtlggjgapdpkhiaaGreatJKFacts
import Derived.Test.YtlggjgapdpkhiaaGreatJKSlca5
namespace Go.Proofs.YtlggjgapdpkhiaaGreat
open Go.RowKit Go.Extern.Stop Go.Stop Go.Extern
end Go.Proofs.YtlggjgapdpkhiaaGreat
namespace Go.Proofs.YtlggjgapdpkhiaaGreat
open Go.RowKit Go.Extern.Stop Go.Stop Go.Extern
end Go.Proofs.YtlggjgapdpkhiaaGreat
namespace Go.Proofs.YtlggjgapdpkhiaaGreat
open Go.RowKit Go.Extern.Stop Go.Stop Go.Extern
def chn : List (ByteArray × Int) → Value → Value
 | [], b => b
 | s :: l, b => .iface 117 (.agg #[.string s.1, .int .i64 s.2, chn l b])
def bse (k : Int) : Value := .iface 67 (.int .i64 k)
theorem size_inner (x y e : Value) : SizeOf.sizeOf e < SizeOf.sizeOf (Value.iface 117 (.agg #[x, y, e])) := by
 simp
 omega
theorem chn_form (l : List (ByteArray × Int)) (c : Int) : ∃ ty v, chn l (bse c) = .iface ty v := by
 rcases l with _ | ⟨s, l⟩
 ·exact ⟨_, _, rfl⟩
 ·exact ⟨_, _, rfl⟩
end Go.Proofs.YtlggjgapdpkhiaaGreat
