/-
  IS AN ERROR SUCH A ONE (castellanlaw05.wrong): of what a record's check told, and of what the document says. Condition: errors.errorType is laid.
-/
import Derived.Test.YtgbcjmpnkejpeaaGreatDoorJRecWkaa2
import Derived.Deep.RegionHeld3
namespace Go.Proofs.YtgbcjmpnkejpeaaGreatDoor
open Go.RowKit

theorem wrong_nil (OP : ByteArray) (WH : Int) (w : World) : Calls Tryz.prog 16 #[.nilIface, .agg #[.string OP, .int .i64 WH, .int .i64 0]] w fun e w' => e = .returned (.bool true) ∧ Below w.heap.size w w' := by
  go_enter Tryz.func16, Tryz.ntmps16
  go_wp2
  go_ret
  exact ⟨rfl, (Below.refl _ _).alloc (Nat.le_refl _) _⟩
theorem three_in (w : World) (wh c : Int) (op : ByteArray) {w0 : World} (h0 : w0 = w.alloc (.cells #[.string op, .int .i64 wh, .int .i64 c] 44)) {w1 : World} (h1 : Below w0.heap.size w0 w1) : ∀ W, Below (w.heap.size + 1) w1 W →
    (W.cell? ⟨w.heap.size, 0, none⟩ = some (.string op) ∧ W.cell? ⟨w.heap.size, 1, none⟩ = some (.int .i64 wh) ∧ W.cell? ⟨w.heap.size, 2, none⟩ = some (.int .i64 c)) := by
  intro W hW
  have hz : w0.heap.size = w.heap.size + 1 := by rw [h0]; simp
  have hc : ∀ i, W.cell? ⟨w.heap.size, i, none⟩ = w0.cell? ⟨w.heap.size, i, none⟩ := fun i => by
    rw [hW.cell (p := ⟨w.heap.size, i, none⟩) (by show w.heap.size < _; omega)]
    exact h1.cell (p := ⟨w.heap.size, i, none⟩) (by show w.heap.size < _; omega)
  refine ⟨by rw [hc, h0]; simp, by rw [hc, h0]; simp, by rw [hc, h0]; simp⟩
set_option maxRecDepth 100000 in
set_option maxHeartbeats 4000000 in
theorem wrong_ft (op : ByteArray) (wh c : Int) (w : World) (hg : Hnd w) : Calls Tryz.prog 16 #[ft op wh c, .agg #[.string op, .int .i64 wh, .int .i64 c]] w fun e w' => e = .returned (.bool true) ∧ Below w.heap.size w w' := by
  have G0 := hide hg
  have hof := fun W h => of_ev (some ([(op, wh)], c)) W h
  have hwe := fun W h => where_ev (some ([(op, wh)], c)) W h
  have hun := fun W h => under_ev (some ([(op, wh)], c)) op W h (by simp [stV])
  rw [show inV (stV (some ([(op, wh)], c))) = true from rfl, show atV (stV (some ([(op, wh)], c))) = wh from rfl] at hwe
  rw [show ofV (some ([(op, wh)], c)) = c from rfl] at hof
  rw [show hasB ((stV (some ([(op, wh)], c))).map (·.1)) op = true by simp [stV, hasB]] at hun
  simp only [← ft_ev] at hof hwe hun
  obtain ⟨U, hU⟩ : ∃ U, ft op wh c = .iface 148 U := ⟨_, rfl⟩
  rw [hU] at hof hwe hun ⊢
  have HOF := hide hof
  have HWE := hide hwe
  have HUN := hide hun
  have HA := hide ((Below.refl w.heap.size w).alloc (Nat.le_refl _) (.cells #[.string op, .int .i64 wh, .int .i64 c] 44))
  clear hof hwe hun hg hU
  go_enter Tryz.func16, Tryz.ntmps16
  go_wp2_with fail
  refine (HWE.out _ (G0.out.below HA.out)).mono ?_
  rintro e w1 ⟨rfl, hb1⟩
  have HB1 := hide (HA.out.trans (hb1.mono (by simp)))
  have hz1 : w.heap.size + 1 ≤ w1.heap.size := by have := hb1.size; simpa using this
  have hF := three_in w wh c op rfl hb1
  have HS0 := hide (hs_drew hF hz1)
  have HF := hide hF
  clear hF hb1
  go_wp2_with fail
  go_region_held3 (fun W => (W.cell? ⟨w.heap.size, 0, none⟩ = some (.string op) ∧ W.cell? ⟨w.heap.size, 1, none⟩ = some (.int .i64 wh) ∧ W.cell? ⟨w.heap.size, 2, none⟩ = some (.int .i64 c)) ∧ Below (w.heap.size + 1) w1 W ∧ w.heap.size + 1 ≤ W.heap.size)
    (first | with_reducible assumption | with_reducible exact hs_call HF.out (by assumption) (by assumption) | exact HS0.out)
    (first
      | (go_at_call 34; refine (HOF.out _ ?_).mono ?_; exact G0.out.below (HB1.out.trans (Below.mono (And.left (And.right (by assumption))) (by omega))); rintro e w' ⟨rfl, hb⟩)
      | (go_at_call 60; refine (HUN.out _ ?_).mono ?_; exact G0.out.below (HB1.out.trans (Below.mono (And.left (And.right (by assumption))) (by omega))); rintro e w' ⟨rfl, hb⟩))
  go_wp2_with fail
  go_ret
  exact ⟨rfl, HB1.out.trans (Below.mono (And.left (And.right (by assumption))) (Nat.le_succ _))⟩
theorem wrong_any (op : ByteArray) (wh c : Int) (w : World) (hg : Hnd w) : Calls Tryz.prog 16 #[erN op wh c, .agg #[.string op, .int .i64 wh, .int .i64 c]] w fun e w' => e = .returned (.bool true) ∧ Below w.heap.size w w' := by
  by_cases hc : c = 0
  · subst hc
    rw [show erN op wh 0 = .nilIface from if_pos rfl]
    exact wrong_nil op wh w
  · rw [show erN op wh c = ft op wh c from if_neg hc]
    exact wrong_ft op wh c w hg
end Go.Proofs.YtgbcjmpnkejpeaaGreatDoor
