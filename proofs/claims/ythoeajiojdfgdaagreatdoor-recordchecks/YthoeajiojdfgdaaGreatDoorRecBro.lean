/-
  BROKERS (castellanref05.Brokers, row, name): as functions of lists. Conditions: the numbers' cells hold them, no more than a thousand.
-/
import Derived.Test.YthoeajiojdfgdaaGreatDoorRecHas
import Derived.WalkSmall
namespace Go.Proofs.YthoeajiojdfgdaaGreatDoor
open Go.RowKit

/-- The j-th broker may be, and is none of those ahead. -/
def okJ (l : List Int) (j : Nat) : Bool := decide (1 ≤ l.getD j 0 ∧ l.getD j 0 ≤ 64) && (List.range j).all fun k => decide (¬ l.getD k 0 = l.getD j 0)
def brokB (l : List Int) : Bool := decide (l.length ≤ 7) && (List.range l.length).all (okJ l)
theorem okJ_no {l : List Int} {j : Nat} (h : ¬ (1 ≤ l.getD j 0 ∧ l.getD j 0 ≤ 64)) : okJ l j = false := by
  unfold okJ; rw [decide_eq_false h, Bool.false_and]
theorem okJ_twice {l : List Int} {j k : Nat} (hk : k < j) (h : l.getD k 0 = l.getD j 0) : okJ l j = false := by
  unfold okJ
  rw [show ((List.range j).all fun k => decide (¬ l.getD k 0 = l.getD j 0)) = false by
    rw [List.all_eq_false]
    exact ⟨k, List.mem_range.2 hk, by rw [decide_eq_false (fun q => q h)]; decide⟩, Bool.and_false]
theorem okJ_yes {l : List Int} {j : Nat} (h : 1 ≤ l.getD j 0 ∧ l.getD j 0 ≤ 64) (hk : ∀ k, k < j → ¬ l.getD k 0 = l.getD j 0) : okJ l j = true := by
  unfold okJ
  rw [decide_eq_true h, Bool.true_and, List.all_eq_true]
  intro k hk'
  exact decide_eq_true (hk k (List.mem_range.1 hk'))
theorem brokB_no {l : List Int} {j : Nat} (hj : j < l.length) (h : okJ l j = false) : brokB l = false := by
  unfold brokB
  rw [show (List.range l.length).all (okJ l) = false by
    rw [List.all_eq_false]
    exact ⟨j, List.mem_range.2 hj, by simp [h]⟩, Bool.and_false]
theorem brokB_yes {l : List Int} (h7 : l.length ≤ 7) (h : ∀ j, j < l.length → okJ l j = true) : brokB l = true := by
  unfold brokB
  rw [decide_eq_true h7, Bool.true_and, List.all_eq_true]
  intro j hj
  exact h j (List.mem_range.1 hj)
/-- Nothing but draws of an order. -/
def Qt (w W : World) : Prop := ∃ n, W = w.drewN n
theorem Qt.refl (w : World) : Qt w w := ⟨0, rfl⟩
theorem Qt.drewN {w W : World} (h : Qt w W) (n : Nat) : Qt w (W.drewN n) := by
  obtain ⟨m, rfl⟩ := h
  exact ⟨m + n, by rw [World.drewN_drewN]⟩
theorem Qt.below {w W : World} (h : Qt w W) : Below w.heap.size w W := by
  obtain ⟨m, rfl⟩ := h
  exact below_drewN (Below.refl _ _) m
/-- A call that only reads, as a step of a region that only reads. -/
theorem Calls.quiet_qt {P : Program} {f : FuncId} {args : Array Value} {w : World} {n : Nat} {v : Value} (h : Calls P f args (w.drewN n) fun e w' => e = .returned v ∧ Qt (w.drewN n) w') : Calls P f args (w.drewN n) fun e w'' => e = .returned v ∧ ∃ m, w'' = w.drewN m :=
  Calls.quiet_of h
set_option maxRecDepth 100000 in
set_option maxHeartbeats 4000000 in
theorem brok_some (b o cap : Nat) (l : List Int) (w : World) (h3 : ∀ i (h : i < l.length), w.cell? ⟨b, o + i, none⟩ = some (ic l[i])) :
    Calls Tryz.prog 14 #[.slice (some ⟨b, o, none⟩) l.length cap] w fun e w' => e = .returned (.bool (brokB l)) ∧ Qt w w' := by
  obtain ⟨R, hR⟩ : ∃ R, R = brokB l := ⟨_, rfl⟩
  rw [← hR]
  have HR := hide hR
  clear hR
  by_cases h7 : 7 < l.length
  · have HE : Hid (R = false) := hide (by rw [HR.out]; unfold brokB; rw [decide_eq_false (by omega), Bool.false_and])
    have h7' : (7 : Int) < (l.length : Int) := by omega
    clear h3
    go_enter Tryz.func14, Tryz.ntmps14
    go_wp2_with fail
    go_ret
    exact ⟨by rw [HE.out]; rfl, Qt.refl _⟩
  have h7' : ¬ (7 : Int) < (l.length : Int) := by omega
  have H3 : Hid (∀ W, Qt w W → ∀ i, i < l.length → W.cell? ⟨b, o + i, none⟩ = some (.int .i64 (l.getD i 0))) := hide (fun W hW i hi => by
    have := h3 i hi
    rw [hW.below.cell (p := ⟨b, o + i, none⟩) (cell_block this), this]
    simp [List.getD, hi, ic])
  clear h3
  go_enter Tryz.func14, Tryz.ntmps14
  go_wp2_with fail
  go_loopw [3] (fun i wr => ∃ j : Nat, j ≤ l.length ∧ i = .int .i64 (j : Int) ∧ Hid (∀ m, m < j → okJ l m = true) ∧ Qt w wr) (fun i _ => l.length - (intOf i).toNat)
  case atStart => exact ⟨0, Nat.zero_le _, rfl, hide (fun m hm => absurd hm (Nat.not_lt_zero _)), Qt.refl _⟩
  case round =>
    obtain ⟨j, hj, rfl, HN, hb⟩ := hrel
    have HB := hide hb
    clear hb
    by_cases hlt : j < l.length
    · have hltI : (j : Int) < (l.length : Int) := by omega
      have cj := H3.out wr HB.out j hlt
      by_cases hlo : l.getD j 0 < 1 ∨ (¬ l.getD j 0 < 1 ∧ 64 < l.getD j 0)
      · have HE : Hid (R = false) := hide (by rw [HR.out]; exact brokB_no hlt (okJ_no (by omega)))
        generalize l.getD j 0 = x at *
        rcases hlo with h1 | ⟨h1, h2⟩
        all_goals
          go_wp2_with fail
          go_ret
          exact ⟨by rw [HE.out]; rfl, HB.out⟩
      · have h1 : ¬ l.getD j 0 < 1 := by omega
        have h2 : ¬ 64 < l.getD j 0 := by omega
        clear hlo
        obtain ⟨x, hx⟩ : ∃ x, x = l.getD j 0 := ⟨_, rfl⟩
        rw [← hx] at cj h1 h2
        have HX := hide hx
        clear hx
        go_wp2_with fail
        obtain ⟨wo, rfl⟩ : ∃ wo : World, wo = wr := ⟨_, rfl⟩
        go_loopw [4] (fun i wr => ∃ k : Nat, k ≤ j ∧ i = .int .i64 (k : Int) ∧ Hid (∀ m, m < k → ¬ l.getD m 0 = x) ∧ Qt w wr) (fun i _ => j - (intOf i).toNat)
        case atStart => exact ⟨0, Nat.zero_le _, rfl, hide (fun m hm => absurd hm (Nat.not_lt_zero _)), HB.out⟩
        case round =>
          obtain ⟨k, hk, rfl, HK, hbk⟩ := hrel
          have HBK := hide hbk
          clear hbk
          by_cases hkj : k < j
          · have hkI : (k : Int) < (j : Int) := by omega
            have hkl : (k : Int) < (l.length : Int) := by omega
            have ck := H3.out wr HBK.out k (by omega)
            have cj2 := H3.out wr HBK.out j hlt
            rw [← HX.out] at cj2
            obtain ⟨y, hy⟩ : ∃ y, y = l.getD k 0 := ⟨_, rfl⟩
            rw [← hy] at ck
            have HY := hide hy
            clear hy cj
            by_cases he : y = x
            · have HE : Hid (R = false) := hide (by rw [HR.out]; exact brokB_no hlt (okJ_twice hkj (by rw [← HY.out, ← HX.out]; exact he)))
              go_wp2_with fail
              go_quiet (fail)
              go_wp2_with fail
              go_ret
              exact ⟨by rw [HE.out]; rfl, HBK.out.drewN _⟩
            · go_wp2_with fail
              go_quiet (fail)
              go_wp2_with fail
              go_roundw
              case rel => exact ⟨k + 1, by omega, by go_num, hide (fun m hm => by by_cases e : m = k; (subst e; rw [← HY.out]; exact he); exact HK.out m (by omega)), HBK.out.drewN _⟩
              case measure => simp [intOf]; omega
          · obtain rfl : k = j := by omega
            have HJ : Hid (okJ l k = true) := hide (okJ_yes (by rw [← HX.out]; omega) (fun m hm => by rw [← HX.out]; exact HK.out m hm))
            clear hkj
            go_wp2_with fail
            go_roundw
            case rel => exact ⟨k + 1, by omega, by go_num, hide (fun m hm => by by_cases e : m = k; (subst e; exact HJ.out); exact HN.out m (by omega)), HBK.out⟩
            case measure => simp [intOf]; omega
    · obtain rfl : j = l.length := by omega
      have HE : Hid (R = true) := hide (by rw [HR.out]; exact brokB_yes (by omega) HN.out)
      clear hlt
      go_wp2_with fail
      go_ret
      exact ⟨by rw [HE.out]; rfl, HB.out⟩
set_option maxHeartbeats 4000000 in
theorem brok_none (ao : Option Addr) (cap : Nat) (w : World) : Calls Tryz.prog 14 #[.slice ao 0 cap] w fun e w' => e = .returned (.bool (brokB [])) ∧ Qt w w' := by
  go_enter Tryz.func14, Tryz.ntmps14
  go_wp2_with fail
  refine wp_loop_rounds 1 ?_
  rw [rounds_succ]
  go_wp2_with fail
  go_ret
  exact ⟨rfl, Qt.refl _⟩
theorem brok_any (v : Value) (l : List Int) (w : World) (hv : Sl ic w v l) : Calls Tryz.prog 14 #[v] w fun e w' => e = .returned (.bool (brokB l)) ∧ Qt w w' := by
  rcases hv with ⟨ao, cap, rfl, rfl⟩ | ⟨b, o, cap, rfl, _, h3⟩
  · exact brok_none ao cap w
  · exact brok_some b o cap l w h3
/-- Brokers that may be, if they are asked for; else none. -/
def rowB (l : List Int) (asks : Bool) : Bool := if asks then brokB l else ((l.length : Int) == 0)
theorem row_any (v : Value) (l : List Int) (asks : Bool) (w : World) (hv : Sl ic w v l) : Calls Tryz.prog 42 #[v, .bool asks] w fun e w' => e = .returned (.bool (rowB l asks)) ∧ Qt w w' := by
  obtain ⟨R, hR⟩ : ∃ R, R = rowB l asks := ⟨_, rfl⟩
  rw [← hR]
  have HR := hide hR
  have HB := hide (brok_any v l w hv)
  obtain ⟨ao, cap, rfl⟩ := hv.form
  clear hR hv
  cases asks with
  | true =>
    have HE : Hid (R = brokB l) := hide HR.out
    go_enter Tryz.func42, Tryz.ntmps42
    go_wp2_with fail
    refine HB.out.mono ?_
    rintro e w1 ⟨rfl, hb⟩
    go_wp2_with fail
    go_ret
    exact ⟨by rw [HE.out]; rfl, hb⟩
  | false =>
    have HE : Hid (R = ((l.length : Int) == 0)) := hide HR.out
    go_enter Tryz.func42, Tryz.ntmps42
    go_wp2_with fail
    go_ret
    exact ⟨by rw [HE.out]; rfl, Qt.refl _⟩
/-- A name, if it is asked for; else nothing. -/
def nameA (S : List UInt8) (asks : Bool) : Bool := if asks then nameB S else S.isEmpty
theorem namea_any (S : List UInt8) (asks : Bool) (w : World) (hS : S.length ≤ 1000) : Calls Tryz.prog 41 #[.string ⟨S.toArray⟩, .bool asks] w fun e w' => e = .returned (.bool (nameA S asks)) ∧ w' = w := by
  obtain ⟨R, hR⟩ : ∃ R, R = nameA S asks := ⟨_, rfl⟩
  rw [← hR]
  have HR := hide hR
  have HB := hide (name_any S w hS)
  have hdot : (⟨S.toArray⟩ : ByteArray).toList = S := by simp
  clear hR
  cases asks with
  | true =>
    have HE : Hid (R = nameB S) := hide HR.out
    go_enter Tryz.func41, Tryz.ntmps41
    go_wp2_with fail
    refine HB.out.mono ?_
    rintro e w1 ⟨rfl, rfl⟩
    go_wp2_with fail
    go_ret
    exact ⟨by rw [HE.out]; rfl, rfl⟩
  | false =>
    have HE : Hid (R = S.isEmpty) := hide HR.out
    go_enter Tryz.func41, Tryz.ntmps41
    go_wp2_with fail
    go_ret
    exact ⟨by rw [HE.out]; rfl, rfl⟩
end Go.Proofs.YthoeajiojdfgdaaGreatDoor
