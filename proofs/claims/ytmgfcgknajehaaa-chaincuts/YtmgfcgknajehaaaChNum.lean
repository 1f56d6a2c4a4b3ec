/-
  NUMBERS OF EIGHT AND OF SIXTEEN BITS. No condition.
-/
import Derived.Test.YtmgfcgknajehaaaFrameP
namespace Go.Proofs.Ytmgfcgknajehaaa
theorem u8_ofC {n : Int} (h : (Lit.int .u8 n).wf = true) : 0 ≤ n ∧ n ≤ 255 := by
  simp only [Lit.wf, Bool.and_eq_true, decide_eq_true_eq, show IntKind.u8.min = 0 by decide, show IntKind.u8.max = 255 by decide] at h
  exact h
theorem u16_ofC {n : Int} (h : (Lit.int .u16 n).wf = true) : 0 ≤ n ∧ n ≤ 65535 := by
  simp only [Lit.wf, Bool.and_eq_true, decide_eq_true_eq, show IntKind.u16.min = 0 by decide, show IntKind.u16.max = 65535 by decide] at h
  exact h
end Go.Proofs.Ytmgfcgknajehaaa
