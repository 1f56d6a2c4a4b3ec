/-
  A READER's NEXT TEXT (wire.Reader.Text), out of what its Int tells. Conditions: the bytes' cells hold them, they lie below the reader, no more than ten thousand.
-/
import Derived.Test.YthoeajiojdfgdaaGreatDoorMG
namespace Go.Proofs.YthoeajiojdfgdaaGreatDoor
open Go.RowKit

set_option maxRecDepth 100000 in
set_option maxHeartbeats 4000000 in
theorem rtext_bad (p : Nat) (V : Value) (a A m N : Int) (e0 : Value) (t : TypeId) (u : Value) (w : World) (hr : Rd w p V a e0)
    (HC : Hid (Calls Tryz.prog 61 #[.pointer (some ⟨p, 0, none⟩), .int .i64 m] w fun x w' => x = .returned (.int .i64 N) ∧ Rd w' p V A (.iface t u) ∧ Bx p w w')) :
    Calls Tryz.prog 90 #[.pointer (some ⟨p, 0, none⟩), .int .i64 m] w fun x w' => x = .returned (.slice none 0 0) ∧ Rd w' p V A (.iface t u) ∧ Bx p w w' := by
  obtain ⟨c0, c1, c2, fz⟩ := id hr
  clear hr fz
  go_enter Tryz.func90, Tryz.ntmps90
  go_wp2_with (first | (go_at_call 61; refine (HC.out).mono ?_; rintro e w1 ⟨rfl, hr1, hb1⟩; obtain ⟨d0, d1, d2, fz1⟩ := id hr1; have g1 := fz1 1; have g2 := fz1 2; clear fz1; have HR1 := hide hr1; have HB1 := hide hb1; clear hr1 hb1))
  go_ret
  exact ⟨rfl, HR1.out, HB1.out⟩
set_option maxRecDepth 100000 in
set_option maxHeartbeats 4000000 in
theorem rtext_short (p : Nat) (ao : Option Addr) (L cap A : Nat) (a m N : Int) (e0 : Value) (w : World) (hr : Rd w p (.slice ao L cap) a e0) (_hL : L ≤ 10000) (hc : L ≤ cap) (hA : A ≤ L) (hn : ((L - A : Nat) : Int) < N)
    (HC : Hid (Calls Tryz.prog 61 #[.pointer (some ⟨p, 0, none⟩), .int .i64 m] w fun x w' => x = .returned (.int .i64 N) ∧ Rd w' p (.slice ao L cap) A .nilIface ∧ Bx p w w')) :
    Calls Tryz.prog 90 #[.pointer (some ⟨p, 0, none⟩), .int .i64 m] w fun x w' => x = .returned (.slice none 0 0) ∧ Rd w' p (.slice ao L cap) a (ft ⟨#[116, 101, 120, 116]⟩ a 3) ∧ Bx p w w' := by
  by_cases hcl : cap = A
  · subst hcl
    obtain ⟨c0, c1, c2, fz⟩ := id hr
    clear hr fz
    go_enter Tryz.func90, Tryz.ntmps90
    go_wp2_with (first | (go_at_call 61; refine (HC.out).mono ?_; rintro e w1 ⟨rfl, hr1, hb1⟩; obtain ⟨d0, d1, d2, fz1⟩ := id hr1; have g1 := fz1 1; have g2 := fz1 2; clear fz1; have HR1 := hide hr1; have HB1 := hide hb1; clear hr1 hb1))
    go_quiet (fail)
    go_wp2_with (first | (go_at_call 62; refine (refuse_none p _ _ _ _ _ ((HR1.out.drewN _).seta _)).mono ?_; rintro e w' ⟨rfl, rfl⟩))
    go_ret
    exact ⟨rfl, ((HR1.out.drewN _).seta _).sete _, ((HB1.out.drewN _).set _ _).set _ _⟩
  · obtain ⟨c0, c1, c2, fz⟩ := id hr
    clear hr fz
    go_enter Tryz.func90, Tryz.ntmps90
    go_wp2_with (first | (go_at_call 61; refine (HC.out).mono ?_; rintro e w1 ⟨rfl, hr1, hb1⟩; obtain ⟨d0, d1, d2, fz1⟩ := id hr1; have g1 := fz1 1; have g2 := fz1 2; clear fz1; have HR1 := hide hr1; have HB1 := hide hb1; clear hr1 hb1))
    go_quiet (fail)
    go_wp2_with (first | (go_at_call 62; refine (refuse_none p _ _ _ _ _ ((HR1.out.drewN _).seta _)).mono ?_; rintro e w' ⟨rfl, rfl⟩))
    go_ret
    exact ⟨rfl, ((HR1.out.drewN _).seta _).sete _, ((HB1.out.drewN _).set _ _).set _ _⟩
set_option maxRecDepth 100000 in
set_option maxHeartbeats 4000000 in
theorem rtext_ok (p b o L cap A : Nat) (a m : Int) (e0 : Value) (l : List Int) (w : World) (hr : Rd w p (.slice (some ⟨b, o, none⟩) L cap) a e0) (hL : L ≤ 10000) (hc : L ≤ cap) (hk : 0 < l.length) (hn : A + l.length ≤ L) (hp : b ≠ p) (h3 : ∀ i (h : i < l.length), w.cell? ⟨b, o + A + i, none⟩ = some (bc l[i]))
    (HC : Hid (Calls Tryz.prog 61 #[.pointer (some ⟨p, 0, none⟩), .int .i64 m] w fun x w' => x = .returned (.int .i64 (l.length : Int)) ∧ Rd w' p (.slice (some ⟨b, o, none⟩) L cap) A .nilIface ∧ Bx p w w')) :
    Calls Tryz.prog 90 #[.pointer (some ⟨p, 0, none⟩), .int .i64 m] w fun x w' => ∃ v, x = .returned v ∧ Sl bc w' v l ∧ Rd w' p (.slice (some ⟨b, o, none⟩) L cap) (A + l.length : Nat) .nilIface ∧ Bx p w w' := by
  obtain ⟨c0, c1, c2, fz⟩ := id hr
  clear hr fz
  have hne : ¬ cap = A := by omega
  have H3 := hide h3
  clear h3
  go_enter Tryz.func90, Tryz.ntmps90
  go_wp2_with (first | (go_at_call 61; refine (HC.out).mono ?_; rintro e w1 ⟨rfl, hr1, hb1⟩; obtain ⟨d0, d1, d2, fz1⟩ := id hr1; have g1 := fz1 1; have g2 := fz1 2; clear fz1; have HR1 := hide hr1; have HB1 := hide hb1; clear hr1 hb1))
  go_quiet (fail)
  go_wp2_with fail
  refine (clone_some b (o + A) (cap - A) l _ (by omega) ?_).mono ?_
  · intro i hi
    rw [World.cell?_setCell_other _ _ _ _ (by simp), World.cell?_drewN, HB1.out.cell (cell_block (H3.out i hi)) hp]
    exact H3.out i hi
  rintro e w2 ⟨v, rfl, hown, hb2⟩
  have hS := hide (sl_of_owns hown)
  have hR2 := hide (((HR1.out.drewN nq).seta (A + l.length)).below hb2)
  have hB2 := hide (((HB1.out.drewN nq).set 1 (.int .i64 (A + l.length))).call hb2)
  clear hown hb2
  go_wp2_with fail
  go_ret
  exact ⟨v, rfl, hS.out, by have := hR2.out; simpa using this, hB2.out⟩
theorem clone_nil (ao : Option Addr) (cap : Nat) (w : World) : Calls Tryz.prog 106 #[.slice ao 0 cap] w fun e w' => (∃ ao c, e = .returned (.slice ao 0 c)) ∧ Below w.heap.size w w' := by
  cases ao with
  | none => exact clone_none cap w
  | some a => exact clone_zero a cap w
set_option maxRecDepth 100000 in
set_option maxHeartbeats 4000000 in
theorem rtext_zero (p : Nat) (ao : Option Addr) (L cap A : Nat) (a m : Int) (e0 : Value) (w : World) (hr : Rd w p (.slice ao L cap) a e0) (hL : L ≤ 10000) (hc : L ≤ cap) (hn : A ≤ L)
    (HC : Hid (Calls Tryz.prog 61 #[.pointer (some ⟨p, 0, none⟩), .int .i64 m] w fun x w' => x = .returned (.int .i64 0) ∧ Rd w' p (.slice ao L cap) A .nilIface ∧ Bx p w w')) :
    Calls Tryz.prog 90 #[.pointer (some ⟨p, 0, none⟩), .int .i64 m] w fun x w' => ∃ v, x = .returned v ∧ Sl bc w' v [] ∧ Rd w' p (.slice ao L cap) A .nilIface ∧ Bx p w w' := by
  by_cases hcl : cap = A
  · subst hcl
    obtain ⟨c0, c1, c2, fz⟩ := id hr
    clear hr fz
    go_enter Tryz.func90, Tryz.ntmps90
    go_wp2_with (first | (go_at_call 61; refine (HC.out).mono ?_; rintro e w1 ⟨rfl, hr1, hb1⟩; obtain ⟨d0, d1, d2, fz1⟩ := id hr1; have g1 := fz1 1; have g2 := fz1 2; clear fz1; have HR1 := hide hr1; have HB1 := hide hb1; clear hr1 hb1))
    go_quiet (fail)
    go_wp2_with fail
    refine (clone_nil _ _ _).mono ?_
    rintro e w2 ⟨⟨ao', c', rfl⟩, hb2⟩
    have hR2 := hide (((HR1.out.drewN nq).seta cap).below hb2)
    have hB2 := hide (((HB1.out.drewN nq).set 1 (.int .i64 cap)).call hb2)
    clear hb2
    go_wp2_with fail
    go_ret
    exact ⟨_, rfl, Sl.nil _ _ _ _, hR2.out, hB2.out⟩
  · obtain ⟨c0, c1, c2, fz⟩ := id hr
    clear hr fz
    go_enter Tryz.func90, Tryz.ntmps90
    go_wp2_with (first | (go_at_call 61; refine (HC.out).mono ?_; rintro e w1 ⟨rfl, hr1, hb1⟩; obtain ⟨d0, d1, d2, fz1⟩ := id hr1; have g1 := fz1 1; have g2 := fz1 2; clear fz1; have HR1 := hide hr1; have HB1 := hide hb1; clear hr1 hb1))
    go_quiet (fail)
    go_wp2_with fail
    refine (clone_nil _ _ _).mono ?_
    rintro e w2 ⟨⟨ao', c', rfl⟩, hb2⟩
    have hR2 := hide (((HR1.out.drewN nq).seta A).below hb2)
    have hB2 := hide (((HB1.out.drewN nq).set 1 (.int .i64 A)).call hb2)
    clear hb2
    go_wp2_with fail
    go_ret
    exact ⟨_, rfl, Sl.nil _ _ _ _, hR2.out, hB2.out⟩
end Go.Proofs.YthoeajiojdfgdaaGreatDoor
