/-
  WHAT A STREAM KEEPS BEHIND A CALL, WHAT IS WRONG WITH IT, HOW MUCH IS LEFT (frame.Stream.forget, Err, Left). Conditions: the stream's cells hold what they do, no more than ten thousand bytes are left.
-/
import Derived.Test.YtenahnbfaekljaaFrs
namespace Go.Proofs.Ytenahnbfaekljaa
open Go.RowKit

theorem Rd.setv {W : World} {p : Nat} {v : Value} {a : Int} {e : Value} (h : Rd W p v a e) (v' : Value) : Rd (W.setCell ⟨p, 0, none⟩ v') p v' a e :=
  ⟨World.cell?_setCell_same _ _ _ h.c0, by rw [World.cell?_setCell_other _ _ _ _ (by simp)]; exact h.c1, by rw [World.cell?_setCell_other _ _ _ _ (by simp)]; exact h.c2, fun i => by simp [h.fz i]⟩
theorem serr_any (p : Nat) (v : Value) (a : Int) (e : Value) (w : World) (hr : Rd w p v a e) : Calls Try.prog 10 #[.pointer (some ⟨p, 0, none⟩)] w fun x w' => x = .returned e ∧ w' = w := by
  obtain ⟨c0, c1, c2, fz⟩ := hr
  go_enter Try.func10, Try.ntmps10
  go_wp2
  go_ret
  exact ⟨rfl, rfl⟩
theorem sleft_any (p : Nat) (ao : Option Addr) (L cap : Nat) (a : Int) (e : Value) (w : World) (hr : Rd w p (.slice ao L cap) a e) : Calls Try.prog 11 #[.pointer (some ⟨p, 0, none⟩)] w fun x w' => x = .returned (.int .i64 (L : Int)) ∧ w' = w := by
  obtain ⟨c0, c1, c2, fz⟩ := hr
  go_enter Try.func11, Try.ntmps11
  go_wp2
  go_ret
  exact ⟨rfl, rfl⟩
set_option maxHeartbeats 4000000 in
theorem forget_err (p : Nat) (v : Value) (a m : Nat) (t : TypeId) (u : Value) (w : World) (hr : Rd w p v a (.iface t u)) (ha : a ≤ 1000000) (hm : m ≤ 1000000) :
    Calls Try.prog 17 #[.pointer (some ⟨p, 0, none⟩), .int .i64 (m : Int)] w fun x w' => x = .returned (.tuple #[]) ∧ w' = (w.setCell ⟨p, 1, none⟩ (.int .i64 ((a : Int) + (m : Int)))).setCell ⟨p, 0, none⟩ (.slice none 0 0) := by
  obtain ⟨c0, c1, c2, fz⟩ := hr
  have f0 := fz 0
  have f1 := fz 1
  clear fz
  go_enter Try.func17, Try.ntmps17
  go_wp2_with fail
  exact bodyPost_end (v := .tuple #[]) (by simp [results, Try.results17]) rfl ⟨rfl, rfl⟩
set_option maxHeartbeats 4000000 in
theorem forget_none (p : Nat) (v : Value) (a : Nat) (w : World) (hr : Rd w p v a .nilIface) (ha : a ≤ 1000000) :
    Calls Try.prog 17 #[.pointer (some ⟨p, 0, none⟩), .int .i64 0] w fun x w' => x = .returned (.tuple #[]) ∧ w' = w.setCell ⟨p, 1, none⟩ (.int .i64 (a : Int)) := by
  obtain ⟨c0, c1, c2, fz⟩ := hr
  have f1 := fz 1
  clear fz
  go_enter Try.func17, Try.ntmps17
  go_wp2_with fail
  exact bodyPost_end (v := .tuple #[]) (by simp [results, Try.results17]) rfl ⟨rfl, rfl⟩
set_option maxHeartbeats 4000000 in
theorem forget_more (p : Nat) (v : Value) (l : List Int) (a m : Nat) (w : World) (hr : Rd w p v a .nilIface) (ha : a ≤ 1000000) (hm0 : 0 < m) (hm : m ≤ l.length) (hl : l.length ≤ 10000) (hv : Slo (fun b => b ≠ p) w v l) :
    Calls Try.prog 17 #[.pointer (some ⟨p, 0, none⟩), .int .i64 (m : Int)] w fun x w' => x = .returned (.tuple #[]) ∧ ∃ v', Rd w' p v' ((a : Int) + (m : Int)) .nilIface ∧ w'.ownsRow w.heap.size 5 1 v' (l.drop m).length (bv (l.drop m)) ∧ Ex (fun k => k = p) w w' := by
  obtain ⟨c0, c1, c2, fz⟩ := id hr
  obtain ⟨u, hs, hu⟩ := slice_from_any v l m w hv.sl hm
  have hx1 : Ex (fun k => k = p) w (w.setCell ⟨p, 1, none⟩ (.int .i64 ((a : Int) + (m : Int)))) := Ex.set (S := fun k => k = p) w rfl 1 _
  have hv1 := hv.ex hx1 (fun _ h => h)
  have HC := hide (bclone_own u (l.drop m) _ (hu _ hv1.sl) (by rw [List.length_drop]; omega))
  have HR := hide (hr.seta ((a : Int) + (m : Int)))
  have HX := hide hx1
  have f1 := fz 1
  have f0 := fz 0
  have hm1 : (0 : Int) < (m : Int) := by omega
  clear fz hr hv hu hv1 hx1
  go_enter Try.func17, Try.ntmps17
  go_wp2_with fail
  refine HC.out.mono ?_
  rintro e w1 ⟨y, rfl, ho, hb⟩
  obtain ⟨ao, cap, hy⟩ := (sl_of_owns (l := l.drop m) (f := bc) ho).form
  obtain ⟨M, hM⟩ : ∃ M, M = (l.drop m).length := ⟨_, rfl⟩
  rw [← hM] at hy
  clear hM
  subst hy
  have hr1 := HR.out.below hb
  obtain ⟨d0, d1, d2, gz⟩ := id hr1
  have g0 := gz 0
  have HR1 := hide hr1
  have HO := hide ho
  have HX1 := hide (HX.out.trans (Ex.of hb))
  have hlt := HR.out.lt
  have HLT := hide hlt
  clear gz hr1 ho hb hlt
  go_wp2_with fail
  refine bodyPost_end (v := .tuple #[]) (by simp [results, Try.results17]) rfl ⟨rfl, _, HR1.out.setv _, ?_, HX1.out.trans (Ex.set (S := fun k => k = p) _ rfl 0 _)⟩
  have h1 := HO.out
  obtain ⟨q1, q2⟩ := h1
  refine ⟨q1, ?_⟩
  rcases q2 with q2 | ⟨g, cap, cur, a1, a2, a3, a4⟩
  · exact .inl q2
  · have hsz : w.heap.size = (w.setCell ⟨p, 1, none⟩ (.int .i64 ((a : Int) + (m : Int)))).heap.size := by simp [World.setCell]
    refine .inr ⟨g, cap, cur, a1, by omega, ?_, a4⟩
    rw [Below.heap_setCell _ _ _ _ (fun e => by have := HLT.out; simp at e; omega)]
    exact a3
end Go.Proofs.Ytenahnbfaekljaa
