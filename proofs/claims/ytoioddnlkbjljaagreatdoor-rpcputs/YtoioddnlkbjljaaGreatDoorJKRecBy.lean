/-
  A RECORD AS BYTES, BY THE DOCUMENT (castellanref05.int1, text1, row1): bytes of what is asked for. Conditions: the row's cells hold it; no more than a thousand letters or numbers.
-/
import Derived.Test.YtoioddnlkbjljaaGreatDoorJKWputba6
import Derived.Test.YtoioddnlkbjljaaGreatDoorJKWputda6
namespace Go.Proofs.YtoioddnlkbjljaaGreatDoor
open Go.RowKit

theorem int1_any (n : Int) (h : Bool) (w : World) (hn : n ≤ 9223372036854775807) : Calls Tryz.prog 135 #[.int .i64 n, .bool h] w fun e w' => ∃ v, e = .returned v ∧ Sl bc w' v (if h then intL n else []) ∧ Below w.heap.size w w' := by
  have HC := hide (refInt_sl n w hn)
  cases h with
  | true =>
    go_enter Tryz.func135, Tryz.ntmps135
    go_wp2_with (first | (go_at_call 66; refine HC.out.mono ?_; rintro e w1 ⟨v, rfl, hs, hb⟩))
    go_ret
    exact ⟨_, rfl, by simpa using hs, hb⟩
  | false =>
    go_enter Tryz.func135, Tryz.ntmps135
    go_wp2_with fail
    go_ret
    exact ⟨_, rfl, Sl.nil _ _ _ _, Below.refl _ _⟩
theorem row1_any (u : Value) (l : List Int) (h : Bool) (w : World) (hu : Sl ic w u l) (hl : l.length ≤ 4000) (hi : ∀ i (h : i < l.length), l[i] ≤ 9223372036854775807) : Calls Tryz.prog 137 #[u, .bool h] w fun e w' => ∃ v, e = .returned v ∧ Sl bc w' v (if h then enR l else []) ∧ Below w.heap.size w w' := by
  have HC := hide (refRow_sl u l w hu hl hi)
  obtain ⟨ao, cap, rfl⟩ := hu.form
  clear hu hi
  cases h with
  | true =>
    go_enter Tryz.func137, Tryz.ntmps137
    go_wp2_with (first | (go_at_call 160; refine HC.out.mono ?_; rintro e w1 ⟨v, rfl, hs, hb⟩))
    have HS := hide hs
    clear hs
    go_ret
    exact ⟨_, rfl, by simpa [enR] using HS.out, hb⟩
  | false =>
    go_enter Tryz.func137, Tryz.ntmps137
    go_wp2_with fail
    go_ret
    exact ⟨_, rfl, Sl.nil _ _ _ _, Below.refl _ _⟩
set_option maxRecDepth 100000 in
theorem text1_any (S : List UInt8) (h : Bool) (w : World) (hl : S.length ≤ 1000) : Calls Tryz.prog 136 #[.string ⟨S.toArray⟩, .bool h] w fun e w' => ∃ v, e = .returned v ∧ Sl bc w' v (if h then enT S else []) ∧ Below w.heap.size w w' := by
  cases h with
  | true =>
    obtain ⟨cap, w4, hcv, hcell, hb4, hsz4, hcp⟩ := bytes_of S w
    have HC := hide (refText_sl _ (sb S) w4 (sb_sl hcp hcell) (by rw [sb_len]; omega))
    have HB4 := hide hb4
    clear hcell hb4
    go_enter Tryz.func136, Tryz.ntmps136
    go_wp2_with (first | (go_at_call 69; refine HC.out.mono ?_; rintro e w1 ⟨v, rfl, hs, hb⟩))
    have HS := hide hs
    clear hs
    go_ret
    exact ⟨_, rfl, by have := HS.out; rw [sb_len] at this; simpa [enT] using this, HB4.out.trans (hb.mono HB4.out.size)⟩
  | false =>
    go_enter Tryz.func136, Tryz.ntmps136
    go_wp2_with fail
    go_ret
    exact ⟨_, rfl, Sl.nil _ _ _ _, Below.refl _ _⟩
end Go.Proofs.YtoioddnlkbjljaaGreatDoor
