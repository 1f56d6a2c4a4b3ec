/-
  TEXTS, BYTE BY BYTE (castellanref02.Same): two slices with the same bytes are the same. Condition: no more than forty thousand.
-/
import Derived.Test.YtoamghncncalgaaGreatDoorProg
import Derived.Test.YtoamghncncalgaaGreatDoorJSlca2
import Derived.Test.YtoamghncncalgaaGreatDoorJHelda2
import Derived.WalkKit
import Derived.WalkSpells
import Derived.WalkSmall
import Derived.Below
import Derived.Deep.QuietTactic
import Derived.BigQuiet
namespace Go.Proofs.YtoamghncncalgaaGreatDoor
open Go.RowKit

set_option maxRecDepth 100000 in
set_option maxHeartbeats 4000000 in
theorem same_bytes (v u : Value) (a : List Int) (w : World) (hv : Sl bc w v a) (hu : Sl bc w u a) (hl : a.length ≤ 40000) :
    Calls Tryz.prog 76 #[v, u] w fun e w' => e = .returned (.bool true) ∧ Below w.heap.size w w' := by
  rcases hv with ⟨ao, cap, rfl, rfl⟩ | ⟨b, o, cap, rfl, h2, h3⟩
  · rcases hu with ⟨ao', cap', _, rfl⟩ | ⟨b, o, cap', rfl, h2, h3⟩
    all_goals
      go_enter Tryz.func76, Tryz.ntmps76
      go_wp2
      refine wp_loop_rounds 1 ?_
      rw [rounds_succ]
      go_wp2
      go_ret
      exact ⟨rfl, Below.refl _ _⟩
  · rcases hu with ⟨ao', cap', rfl, rfl⟩ | ⟨b', o', cap', rfl, h2', h3'⟩
    · go_enter Tryz.func76, Tryz.ntmps76
      go_wp2
      refine wp_loop_rounds 1 ?_
      rw [rounds_succ]
      go_wp2
      go_ret
      exact ⟨rfl, Below.refl _ _⟩
    · have H3 := hide h3
      have H3' := hide h3'
      clear h3 h3'
      go_enter Tryz.func76, Tryz.ntmps76
      go_wp2
      go_loopw [5] (fun i W => ∃ k : Nat, k ≤ a.length ∧ i = .int .i64 k ∧ Below w.heap.size w W) (fun i _ => a.length - (intOf i).toNat)
      case atStart => exact ⟨0, Nat.zero_le _, rfl, Below.refl _ _⟩
      case round =>
        obtain ⟨k, hk, rfl, hb⟩ := hrel
        by_cases hlt : k < a.length
        · have hc : wr.cell? ⟨b, o + k, none⟩ = some (.int .u8 a[k]) := by rw [hb.cell (p := ⟨b, o + k, none⟩) (cell_block (H3.out k hlt))]; exact H3.out k hlt
          have hc' : wr.cell? ⟨b', o' + k, none⟩ = some (.int .u8 a[k]) := by rw [hb.cell (p := ⟨b', o' + k, none⟩) (cell_block (H3'.out k hlt))]; exact H3'.out k hlt
          generalize a[k] = sk at *
          go_wp2_with fail
          go_quiet (fail)
          go_wp2
          exact ⟨⟨k + 1, by omega, by go_num, below_drewN hb _⟩, by simp [intOf]; omega⟩
        · go_wp2
          go_ret
          exact ⟨rfl, hb⟩

set_option maxRecDepth 100000 in
set_option maxHeartbeats 4000000 in
theorem same_len (ao bo : Option Addr) (L M c d : Nat) (w : World) (h : L ≠ M) : Calls Tryz.prog 76 #[.slice ao L c, .slice bo M d] w fun e w' => e = .returned (.bool false) ∧ Below w.heap.size w w' := by
  have h' : ((L : Int) != (M : Int)) = true := by simpa using fun e => h (by omega)
  go_enter Tryz.func76, Tryz.ntmps76
  go_wp2
  go_ret
  exact ⟨rfl, Below.refl _ _⟩
set_option maxRecDepth 100000 in
set_option maxHeartbeats 4000000 in
theorem same_diff (b o cap b' o' cap' : Nat) (a c : List Int) (w : World) (hac : c.length = a.length) (hne : a ≠ c) (hl : a.length ≤ 40000) (h3 : ∀ i (h : i < a.length), w.cell? ⟨b, o + i, none⟩ = some (bc a[i])) (h3' : ∀ i (h : i < c.length), w.cell? ⟨b', o' + i, none⟩ = some (bc c[i])) :
    Calls Tryz.prog 76 #[.slice (some ⟨b, o, none⟩) a.length cap, .slice (some ⟨b', o', none⟩) a.length cap'] w fun e w' => e = .returned (.bool false) ∧ Below w.heap.size w w' := by
  have H3 := hide h3
  have H3' := hide h3'
  clear h3 h3'
  go_enter Tryz.func76, Tryz.ntmps76
  go_wp2
  go_loopw [5] (fun i W => ∃ k : Nat, k ≤ a.length ∧ i = .int .i64 k ∧ (∀ t (h : t < a.length) (h' : t < c.length), t < k → a[t] = c[t]) ∧ Below w.heap.size w W) (fun i _ => a.length - (intOf i).toNat)
  case atStart => exact ⟨0, Nat.zero_le _, rfl, fun t _ _ h => by omega, Below.refl _ _⟩
  case round =>
    obtain ⟨k, hk, rfl, hall, hb⟩ := hrel
    by_cases hlt : k < a.length
    · have hlt2 : k < c.length := by omega
      have hc : wr.cell? ⟨b, o + k, none⟩ = some (.int .u8 a[k]) := by rw [hb.cell (p := ⟨b, o + k, none⟩) (cell_block (H3.out k hlt))]; exact H3.out k hlt
      have hc' : wr.cell? ⟨b', o' + k, none⟩ = some (.int .u8 c[k]) := by rw [hb.cell (p := ⟨b', o' + k, none⟩) (cell_block (H3'.out k hlt2))]; exact H3'.out k hlt2
      by_cases he : a[k] = c[k]
      · have HN := hide (fun t (h : t < a.length) (h' : t < c.length) (ht : t < k + 1) => show a[t] = c[t] by
          by_cases e : t = k
          · subst e; exact he
          · exact hall t h h' (by omega))
        rw [he] at hc
        clear hall he
        generalize c[k] = sk at *
        go_wp2_with fail
        go_quiet (fail)
        go_wp2
        exact ⟨⟨k + 1, by omega, by go_num, HN.out, below_drewN hb _⟩, by simp [intOf]; omega⟩
      · have hx : (a[k] != c[k]) = true := by simpa using he
        clear hall he
        generalize a[k] = x at *
        generalize c[k] = y at *
        go_wp2_with fail
        go_quiet (fail)
        go_wp2
        go_ret
        exact ⟨rfl, below_drewN hb _⟩
    · exact absurd (List.ext_getElem hac.symm fun t h h' => hall t h h' (by omega)) hne
/-- Two texts: are they the same? -/
theorem same_any (v u : Value) (a c : List Int) (w : World) (hv : Sl bc w v a) (hu : Sl bc w u c) (hl : a.length ≤ 40000) :
    Calls Tryz.prog 76 #[v, u] w fun e w' => e = .returned (.bool (decide (a = c))) ∧ Below w.heap.size w w' := by
  by_cases h : a = c
  · subst h
    rw [decide_eq_true rfl]
    exact same_bytes v u a w hv hu hl
  · rw [decide_eq_false h]
    by_cases hlen : a.length = c.length
    · rcases hv with ⟨ao, cap, rfl, rfl⟩ | ⟨b, o, cap, rfl, h2, h3⟩
      · exact absurd (List.length_eq_zero_iff.1 hlen.symm).symm h
      · rcases hu with ⟨ao', cap', rfl, rfl⟩ | ⟨b', o', cap', rfl, h2', h3'⟩
        · exact absurd (List.length_eq_zero_iff.1 hlen) h
        · rw [← hlen]
          exact same_diff b o cap b' o' cap' a c w hlen.symm h hl h3 h3'
    · obtain ⟨ao, cap, rfl⟩ := hv.form
      obtain ⟨bo, dap, rfl⟩ := hu.form
      exact same_len ao bo _ _ _ _ w hlen
end Go.Proofs.YtoamghncncalgaaGreatDoor
