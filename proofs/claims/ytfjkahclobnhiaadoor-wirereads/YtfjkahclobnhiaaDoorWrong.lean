/-
  IS AN ERROR WHAT A STATE SAYS (castellanlaw02.wrong): yes, where both say the same. Condition: errors.errorType holds the handle of the type error.
-/
import Derived.Test.YtfjkahclobnhiaaDoorRefAny
import Derived.Test.YtfjkahclobnhiaaDoorTextsc
import Derived.Test.YtfjkahclobnhiaaDoorWorks
namespace Go.Proofs.YtfjkahclobnhiaaDoor
open Go.RowKit

theorem wrong_nil (A WH : Int) (OP : ByteArray) (w : World) : Calls Tryd.prog 25 #[.nilIface, .agg #[.int .i64 A, .int .i64 0, .string OP, .int .i64 WH]] w fun e w' => e = .returned (.bool true) ∧ Below w.heap.size w w' := by
  go_enter Tryd.func25, Tryd.ntmps25
  go_wp2
  go_ret
  exact ⟨rfl, (Below.refl _ _).alloc (Nat.le_refl _) _⟩
theorem one_cells (w : World) (a c wh : Int) (op : ByteArray) {w0 : World} (h0 : w0 = w.alloc (.cells #[.int .i64 a, .int .i64 c, .string op, .int .i64 wh] 43)) {w1 : World} (h1 : Below w0.heap.size w0 w1) : ∀ W, Below (w.heap.size + 1) w1 W →
    (W.cell? ⟨w.heap.size, 1, none⟩ = some (.int .i64 c) ∧ W.cell? ⟨w.heap.size, 2, none⟩ = some (.string op) ∧ W.cell? ⟨w.heap.size, 3, none⟩ = some (.int .i64 wh)) := by
  subst h0
  intro W hb
  have hz : w.heap.size < w.heap.size + 1 := Nat.lt_succ_self _
  have hc : ∀ i, W.cell? ⟨w.heap.size, i, none⟩ = (w.alloc (.cells #[.int .i64 a, .int .i64 c, .string op, .int .i64 wh] 43)).cell? ⟨w.heap.size, i, none⟩ := fun i => (hb.cell (p := ⟨w.heap.size, i, none⟩) hz).trans (h1.cell (p := ⟨w.heap.size, i, none⟩) (by simp))
  refine ⟨?_, ?_, ?_⟩
  · rw [hc]; simp [go_sem]
  · rw [hc]; simp [go_sem]
  · rw [hc]; simp [go_sem]
set_option maxRecDepth 100000 in
set_option maxHeartbeats 8000000 in
theorem wrong_ft (op : ByteArray) (wh c A : Int) (w : World) (hg : Hnd w) : Calls Tryd.prog 25 #[ft op wh c, .agg #[.int .i64 A, .int .i64 c, .string op, .int .i64 wh]] w fun e w' => e = .returned (.bool true) ∧ Below w.heap.size w w' := by
  have G0 := hide hg
  have hof := fun W h => of_ev (some ([(op, wh)], c)) W h
  have hwe := fun W h => where_ev (some ([(op, wh)], c)) W h
  have hun := fun W h => under_ev (some ([(op, wh)], c)) op W h (by simp [stV])
  rw [show inV (stV (some ([(op, wh)], c))) = true from rfl, show atV (stV (some ([(op, wh)], c))) = wh from rfl] at hwe
  rw [show ofV (some ([(op, wh)], c)) = c from rfl] at hof
  rw [show hasB ((stV (some ([(op, wh)], c))).map (·.1)) op = true by simp [stV, hasB]] at hun
  simp only [← ft_ev] at hof hwe hun
  obtain ⟨U, hU⟩ : ∃ U, ft op wh c = .iface 89 U := ⟨_, rfl⟩
  rw [hU] at hof hwe hun ⊢
  have HOF := hide hof
  have HWE := hide hwe
  have HUN := hide hun
  have HA := hide ((Below.refl w.heap.size w).alloc (Nat.le_refl _) (.cells #[.int .i64 A, .int .i64 c, .string op, .int .i64 wh] 43))
  clear hof hwe hun hg hU
  go_enter Tryd.func25, Tryd.ntmps25
  go_wp2_with fail
  refine (HWE.out _ (G0.out.below HA.out)).mono ?_
  rintro e w1 ⟨rfl, hb1⟩
  have HB1 := hide (HA.out.trans (hb1.mono (by simp)))
  have hz1 : w.heap.size + 1 ≤ w1.heap.size := by have := hb1.size; simpa using this
  have hF := one_cells w A c wh op rfl hb1
  have HS0 := hide (hs_drew hF hz1)
  have HF := hide hF
  clear hF hb1
  go_wp2_with fail
  go_region_held3 (fun W => (W.cell? ⟨w.heap.size, 1, none⟩ = some (.int .i64 c) ∧ W.cell? ⟨w.heap.size, 2, none⟩ = some (.string op) ∧ W.cell? ⟨w.heap.size, 3, none⟩ = some (.int .i64 wh)) ∧ Below (w.heap.size + 1) w1 W ∧ w.heap.size + 1 ≤ W.heap.size)
    (first | with_reducible assumption | with_reducible exact hs_call HF.out (by assumption) (by assumption) | exact HS0.out)
    (first
      | (go_at_call 34; refine (HOF.out _ ?_).mono ?_; exact G0.out.below (HB1.out.trans (Below.mono (And.left (And.right (by assumption))) (by omega))); rintro e w' ⟨rfl, hb⟩)
      | (go_at_call 48; refine (HUN.out _ ?_).mono ?_; exact G0.out.below (HB1.out.trans (Below.mono (And.left (And.right (by assumption))) (by omega))); rintro e w' ⟨rfl, hb⟩))
  go_wp2_with fail
  go_ret
  exact ⟨rfl, HB1.out.trans (Below.mono (And.left (And.right (by assumption))) (Nat.le_succ _))⟩
theorem wrong_any (op : ByteArray) (wh c next : Int) (w : World) (hg : Hnd w) : Calls Tryd.prog 25 #[erN op wh c, stX c op wh next] w fun e w' => e = .returned (.bool true) ∧ Below w.heap.size w w' := by
  unfold erN stX
  by_cases hc : c = 0
  · rw [if_pos hc, if_pos hc]
    exact wrong_nil next 0 ⟨#[]⟩ w
  · rw [if_neg hc, if_neg hc]
    exact wrong_ft op wh c next w hg
end Go.Proofs.YtfjkahclobnhiaaDoor
