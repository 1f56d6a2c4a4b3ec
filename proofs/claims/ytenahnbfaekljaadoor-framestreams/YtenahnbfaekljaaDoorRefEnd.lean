/-
  THE DOCUMENT's End (castellanref02.End), and its bad where something is wrong already. Condition: no more than four thousand bytes.
-/
import Derived.Test.YtenahnbfaekljaaDoorRefNext
namespace Go.Proofs.YtenahnbfaekljaaDoor
open Go.RowKit

theorem bad_keep (a c wh at' c' : Int) (op s : ByteArray) (w : World) (hc : (c != 0) = true) :
    Calls Tryd.prog 58 #[stv a c op wh, .string s, .int .i64 at', .int .i64 c'] w fun e w' => e = .returned (stv a c op wh) ∧ Below w.heap.size w w' := by
  unfold stv
  go_enter Tryd.func58, Tryd.ntmps58
  go_wp2
  exact bodyPost_ret (v := .agg #[.int .i64 a, .int .i64 c, .string op, .int .i64 wh]) (by simp [results, Tryd.results58, go_sem]) rfl ⟨rfl, ((Below.refl _ _).alloc (Nat.le_refl _) _).alloc (by simp) _⟩


end Go.Proofs.YtenahnbfaekljaaDoor
