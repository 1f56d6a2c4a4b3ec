/-
  WHETHER TWO ROWS OF BATCHES ARE THE SAME, BY THE DOCUMENT (castellanref06.All): those that are. Conditions: the batches' cells hold them, their records' rows are not too long.
-/
import Derived.Test.YtkpknkhacmggnaaGreatDoorJKRpcSuba4
import Derived.Test.YtkpknkhacmggnaaGreatDoorJKBatSr
namespace Go.Proofs.YtkpknkhacmggnaaGreatDoor
open Go.RowKit

theorem brange_at {W : World} {b o : Nat} {qs : List Bq} (h : W.rangeAt b o (bcs qs)) {i : Nat} (hi : i < qs.length) : W.rangeAt b (o + i * 3) (bce qs[i]) := fun j u hu => by
  have := h (i * 3 + j) u (bcs_get qs i hi j u hu)
  rwa [← Nat.add_assoc] at this
set_option maxRecDepth 100000 in
set_option maxHeartbeats 4000000 in
theorem all_none (ao bo : Option Addr) (cap cap' : Nat) (w : World) : Calls Tryz.prog 41 #[.slice ao 0 cap, .slice bo 0 cap'] w fun e w' => e = .returned (.bool true) ∧ Below w.heap.size w w' := by
  go_enter Tryz.func41, Tryz.ntmps41
  go_wp2_with fail
  go_loopw [5] (fun i wr => i = .int .i64 0 ∧ Below w.heap.size w wr) (fun _ _ => 0)
  case atStart => exact ⟨rfl, Below.refl _ _⟩
  case round =>
    obtain ⟨rfl, hb⟩ := hrel
    have HB := hide hb
    clear hb
    go_wp2_with fail
    go_ret
    exact ⟨rfl, HB.out⟩
end Go.Proofs.YtkpknkhacmggnaaGreatDoor
