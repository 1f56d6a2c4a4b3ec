/-
  A CURSOR REFUSES (castellanref05.Cursor.Refuse): something is wrong where it is, if nothing was wrong before.
-/
import Derived.Test.YtgbcjmpnkejpeaaGreatDoorJRecCuga3
import Derived.Deep.RegionHeld3
namespace Go.Proofs.YtgbcjmpnkejpeaaGreatDoor
open Go.RowKit

set_option maxRecDepth 100000 in
set_option maxHeartbeats 16000000 in
theorem curef_gs (p : Nat) (v : Value) (s : Gs) (op : ByteArray) (c : Int) (w : World) (hc0 : c ≠ 0) (hr : CuG w p v s) :
    Calls Tryz.prog 51 #[.pointer (some ⟨p, 0, none⟩), .string op, .int .i64 c] w fun e w' => e = .returned (.tuple #[]) ∧ CuG w' p v (refS op c s) ∧ Bx p w w' := by
  have HR := hide hr
  obtain ⟨c0, c1, c2, c3, c4, fz⟩ := hr
  unfold refS
  by_cases hc : s.c = 0
  · rw [if_pos hc]
    have f1 := fz 1
    have f2 := fz 2
    have f3 := fz 3
    have f4 := fz 4
    rw [hc] at c2
    have d0 : w.drew.cell? ⟨p, 0, none⟩ = some v := c0
    have d1 : w.drew.cell? ⟨p, 1, none⟩ = some (.int .i64 s.pt) := c1
    have d2 : w.drew.cell? ⟨p, 2, none⟩ = some (.int .i64 0) := c2
    have d3 : w.drew.cell? ⟨p, 3, none⟩ = some (.string s.op) := c3
    have d4 : w.drew.cell? ⟨p, 4, none⟩ = some (.int .i64 (whS s)) := c4
    have k1 : w.drew.frozen? ⟨p, 1, none⟩ = false := f1
    have k2 : w.drew.frozen? ⟨p, 2, none⟩ = false := f2
    have k3 : w.drew.frozen? ⟨p, 3, none⟩ = false := f3
    have k4 : w.drew.frozen? ⟨p, 4, none⟩ = false := f4
    have HE := hide (And.intro d0 (And.intro d1 (And.intro d2 (And.intro d3 d4))))
    have HZ : Hid (∀ i, w.drew.frozen? ⟨p, i, none⟩ = false) := hide fz
    clear fz
    go_enter Tryz.func51, Tryz.ntmps51
    go_upto_region 1 with fail
    go_region
    go_wp2_with fail
    obtain ⟨a0, a1, a2, a3, a4⟩ := set_p (x := .int .i64 s.pt) (y := .int .i64 c) (z := .string op) (t := .int .i64 s.pt) HE.out
    exact bodyPost_end (v := .tuple #[]) (by simp [results, Tryz.results51]) rfl ⟨rfl, ⟨a0, a1, a2, a3, by rw [whS, if_neg hc0]; exact a4, fun i => by simp [World.frozen?_setCell, show w.frozen? ⟨p, i, none⟩ = false from HZ.out i]⟩, bx_p ((Below.refl _ _).drew)⟩
  · rw [if_neg hc]
    have hcb : (s.c == 0) = false := by simpa using hc
    clear fz
    go_enter Tryz.func51, Tryz.ntmps51
    go_wp2_with fail
    exact bodyPost_end (v := .tuple #[]) (by simp [results, Tryz.results51]) rfl ⟨rfl, HR.out, Bx.refl _ _⟩
end Go.Proofs.YtgbcjmpnkejpeaaGreatDoor
