/-
  THE DOCUMENT's End (castellanref02.End), and its bad where something is wrong already. Condition: no more than four thousand bytes.
-/
import Derived.Test.YtfjkahclobnhiaaDoorRefNext
namespace Go.Proofs.YtfjkahclobnhiaaDoor
open Go.RowKit

theorem bad_keep (a c wh at' c' : Int) (op s : ByteArray) (w : World) (hc : (c != 0) = true) :
    Calls Tryd.prog 45 #[stv a c op wh, .string s, .int .i64 at', .int .i64 c'] w fun e w' => e = .returned (stv a c op wh) ∧ Below w.heap.size w w' := by
  unfold stv
  go_enter Tryd.func45, Tryd.ntmps45
  go_wp2
  exact bodyPost_ret (v := .agg #[.int .i64 a, .int .i64 c, .string op, .int .i64 wh]) (by simp [results, Tryd.results45, go_sem]) rfl ⟨rfl, ((Below.refl _ _).alloc (Nat.le_refl _) _).alloc (by simp) _⟩

set_option maxHeartbeats 4000000 in
theorem end_all (ao : Option Addr) (L cap a : Nat) (c wh : Int) (op : ByteArray) (w : World) (ha : L ≤ a) :
    Calls Tryd.prog 28 #[.slice ao L cap, stv a c op wh] w fun e w' => e = .returned (stv a c op wh) ∧ Below w.heap.size w w' := by
  have ha' : ¬ (a : Int) < (L : Int) := by omega
  unfold stv
  go_enter Tryd.func28, Tryd.ntmps28
  go_wp2
  exact bodyPost_ret (v := .agg #[.int .i64 a, .int .i64 c, .string op, .int .i64 wh]) (by simp [results, Tryd.results28, go_sem]) rfl ⟨rfl, ((Below.refl _ _).alloc (Nat.le_refl _) _).alloc (by simp) _⟩

set_option maxHeartbeats 4000000 in
/-- Bytes are left; r: what bad tells. -/
theorem end_left (ao : Option Addr) (L cap a : Nat) (c wh c2 wh2 : Int) (op op2 : ByteArray) (w : World) (ha : a < L)
    (HB : Hid (∀ W, Calls Tryd.prog 45 #[stv a c op wh, .string ⟨#[101, 110, 100]⟩, .int .i64 a, .int .i64 5] W fun e w' => e = .returned (stv a c2 op2 wh2) ∧ Below W.heap.size W w')) :
    Calls Tryd.prog 28 #[.slice ao L cap, stv a c op wh] w fun e w' => e = .returned (stv a c2 op2 wh2) ∧ Below w.heap.size w w' := by
  have ha' : (a : Int) < (L : Int) := by omega
  unfold stv at HB ⊢
  go_enter Tryd.func28, Tryd.ntmps28
  go_wp2_with (first | (go_at_call 45; refine (HB.out _).mono ?_; rintro e w' ⟨rfl, hb⟩; obtain ⟨hcc, hf⟩ := bcell hb))
  have q0 : w'.cell? ⟨w.heap.size + 1, 0, none⟩ = some (.int .i64 0) := by rw [hcc _ _ (by simp)]; simp
  have q1 : w'.cell? ⟨w.heap.size + 1, 1, none⟩ = some (.int .i64 0) := by rw [hcc _ _ (by simp)]; simp
  have q2 : w'.cell? ⟨w.heap.size + 1, 2, none⟩ = some (.string ⟨#[]⟩) := by rw [hcc _ _ (by simp)]; simp
  have q3 : w'.cell? ⟨w.heap.size + 1, 3, none⟩ = some (.int .i64 0) := by rw [hcc _ _ (by simp)]; simp
  have T := four_cells (x := .int .i64 a) (y := .int .i64 c2) (z := .string op2) (t := .int .i64 wh2) q0 q1 q2 q3
  have hB : Below w.heap.size w w' := (((Below.refl _ _).alloc (Nat.le_refl _) _).alloc (by simp) _).trans (hb.mono (by simp; omega))
  exact bodyPost_ret (v := .agg #[.int .i64 a, .int .i64 c2, .string op2, .int .i64 wh2]) (by simp [results, Tryd.results28, go_sem, T.1, T.2.1, T.2.2.1, T.2.2.2]) rfl ⟨rfl, (((hB.setCell (by simp) _).setCell (by simp) _).setCell (by simp) _).setCell (by simp) _⟩
end Go.Proofs.YtfjkahclobnhiaaDoor
