/-
  BatchBack's WALK: a batch that is written is read as what it was; bytes that are read were written in just that way. Conditions: the records' cells and the bytes' cells hold them; errors.errorType is laid.
-/
import Derived.Test.YtgbcjmpnkejpeaaGreatDoorJKBatWk
import Derived.Test.YtgbcjmpnkejpeaaGreatDoorJKBatWra3
import Derived.Test.YtgbcjmpnkejpeaaGreatDoorJKWtextba4
namespace Go.Proofs.YtgbcjmpnkejpeaaGreatDoor
open Go.RowKit

theorem read_lnB (l : List Int) (hby : Byt l) : ∀ r ∈ (readB l).2.rs, LnR r := by
  by_cases h : (readB l).1.c = 0
  · obtain ⟨h1, _, _⟩ := readB_once l hby h
    obtain ⟨_, _, _, h4⟩ := bw_ok h1
    exact fun r hr => chk_ln (h4 r hr)
  · rw [readB_zero h]; exact fun r hr => by simp [Bt.zero] at hr
theorem read_nB (l : List Int) (hby : Byt l) : (readB l).2.rs.length ≤ 64 := by
  by_cases h : (readB l).1.c = 0
  · obtain ⟨h1, _, _⟩ := readB_once l hby h
    obtain ⟨_, _, h3, _⟩ := bw_ok h1
    exact h3.2
  · rw [readB_zero h]; simp [Bt.zero]
/-- What behind a call of Read: its batch in new cells. -/
theorem box_in (W : World) (x : Bt) (ao : Option Addr) (n cap : Nat) {Y : World} (hY : Y = W.alloc (.cells #[.int .i64 x.t, .int .i64 x.b, .slice ao n cap] 48)) : Below W.heap.size W Y ∧ ∀ V, Below Y.heap.size Y V → V.cell? ⟨W.heap.size, 0, none⟩ = some (.int .i64 x.t) ∧ V.cell? ⟨W.heap.size, 1, none⟩ = some (.int .i64 x.b) ∧ V.cell? ⟨W.heap.size, 2, none⟩ = some (.slice ao n cap) := by
  subst hY
  exact ⟨(Below.refl _ _).alloc (Nat.le_refl _) _, three_new W _ _ _⟩
end Go.Proofs.YtgbcjmpnkejpeaaGreatDoor
