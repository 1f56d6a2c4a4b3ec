/-
  THE SAME FRAMES (castellanref04.Same): of two slices that hold the same ones it says so. Conditions: no more than a thousand frames, of no more than forty thousand bytes each.
-/
import Derived.Test.YtenahnbfaekljaaFrl
namespace Go.Proofs.Ytenahnbfaekljaa
open Go.RowKit

set_option maxRecDepth 100000 in
set_option maxHeartbeats 4000000 in
theorem fsame_some (b o cap b' o' cap' : Nat) (fs : List (Int × List Int)) (w : World) (h3 : ∀ i (h : i < fs.length), w.cell? ⟨b, o + i * 2, none⟩ = some (.int .i64 fs[i].1) ∧ ∃ u, w.cell? ⟨b, o + i * 2 + 1, none⟩ = some u ∧ Sl bc w u fs[i].2)
    (h3' : ∀ i (h : i < fs.length), w.cell? ⟨b', o' + i * 2, none⟩ = some (.int .i64 fs[i].1) ∧ ∃ u, w.cell? ⟨b', o' + i * 2 + 1, none⟩ = some u ∧ Sl bc w u fs[i].2) (hn : fs.length ≤ 10000) (hl : ∀ f ∈ fs, f.2.length ≤ 40000) :
    Calls Try.prog 9 #[.slice (some ⟨b, o, none⟩) fs.length cap, .slice (some ⟨b', o', none⟩) fs.length cap'] w fun e w' => e = .returned (.bool true) ∧ Below w.heap.size w w' := by
  have H3 := hide h3
  have H3' := hide h3'
  have HL := hide hl
  clear h3 h3' hl
  go_enter Try.func9, Try.ntmps9
  go_wp2_with fail
  go_loopw [5] (fun i wr => ∃ j : Nat, j ≤ fs.length ∧ i = .int .i64 (j : Int) ∧ Below w.heap.size w wr) (fun i _ => fs.length - (intOf i).toNat)
  case atStart => exact ⟨0, Nat.zero_le _, rfl, Below.refl _ _⟩
  case round =>
    obtain ⟨j, hj, rfl, hb⟩ := hrel
    have HB := hide hb
    clear hb
    by_cases hlt : j < fs.length
    · obtain ⟨c0', u1, c1', hs1⟩ := H3.out j hlt
      obtain ⟨d0', u2, d1', hs2⟩ := H3'.out j hlt
      have hbl := HL.out fs[j] (List.getElem_mem hlt)
      have hltI : (j : Int) < (fs.length : Int) := by omega
      obtain ⟨a1, k1, e1⟩ := hs1.form
      obtain ⟨a2, k2, e2⟩ := hs2.form
      generalize fs[j] = f at *
      obtain ⟨M, hM⟩ : ∃ M, M = f.2.length := ⟨_, rfl⟩
      rw [← hM] at e1 e2
      subst e1 e2
      clear hM
      have hF : ∀ W, Below wr.heap.size wr W → (W.cell? ⟨b, o + j * 2, none⟩ = some (.int .i64 f.1) ∧ W.cell? ⟨b, o + j * 2 + 1, none⟩ = some (.slice a1 M k1) ∧ W.cell? ⟨b', o' + j * 2, none⟩ = some (.int .i64 f.1) ∧ W.cell? ⟨b', o' + j * 2 + 1, none⟩ = some (.slice a2 M k2)) := fun W h => by
        have hw := HB.out.trans (h.mono HB.out.size)
        exact ⟨(hw.cell (p := ⟨b, o + j * 2, none⟩) (cell_block c0')).trans c0', (hw.cell (p := ⟨b, o + j * 2 + 1, none⟩) (cell_block c1')).trans c1', (hw.cell (p := ⟨b', o' + j * 2, none⟩) (cell_block d0')).trans d0', (hw.cell (p := ⟨b', o' + j * 2 + 1, none⟩) (cell_block d1')).trans d1'⟩
      have HS := hide (fun W (h : Below wr.heap.size wr W) => same_bytes (.slice a1 M k1) (.slice a2 M k2) f.2 W (hs1.below (HB.out.trans (h.mono HB.out.size))) (hs2.below (HB.out.trans (h.mono HB.out.size))) hbl)
      have HS0 := hide (hs_drew hF (Nat.le_refl _))
      have HF := hide hF
      have hne : (f.1 != f.1) = false := by simp
      clear hF c0' c1' d0' d1' hs1 hs2 hbl
      go_wp2_with fail
      go_region_held3 (fun W => (W.cell? ⟨b, o + j * 2, none⟩ = some (.int .i64 f.1) ∧ W.cell? ⟨b, o + j * 2 + 1, none⟩ = some (.slice a1 M k1) ∧ W.cell? ⟨b', o' + j * 2, none⟩ = some (.int .i64 f.1) ∧ W.cell? ⟨b', o' + j * 2 + 1, none⟩ = some (.slice a2 M k2)) ∧ Below wr.heap.size wr W ∧ wr.heap.size ≤ W.heap.size)
        (first | with_reducible assumption | with_reducible exact hs_call HF.out (by assumption) (by assumption) | with_reducible exact HS0.out)
        (first
          | (go_at_call 14; refine (HS.out _ ?_).mono ?_; exact And.left (And.right (by assumption)); rintro e w' ⟨rfl, hb⟩))
      have hfin : Below wr.heap.size wr w' := And.left (And.right (by assumption))
      have HBF := hide (HB.out.trans (hfin.mono HB.out.size))
      clear hfin
      go_wp2_with fail
      go_roundw
      case rel => exact ⟨j + 1, by omega, by go_num, HBF.out⟩
      case measure => simp [intOf]; omega
    · obtain rfl : j = fs.length := by omega
      clear hlt
      go_wp2_with fail
      go_ret
      exact ⟨rfl, HB.out⟩
set_option maxHeartbeats 4000000 in
theorem fsame_none (ao bo : Option Addr) (cap cap' : Nat) (w : World) : Calls Try.prog 9 #[.slice ao 0 cap, .slice bo 0 cap'] w fun e w' => e = .returned (.bool true) ∧ Below w.heap.size w w' := by
  go_enter Try.func9, Try.ntmps9
  go_wp2_with fail
  refine wp_loop_rounds 1 ?_
  rw [rounds_succ]
  go_wp2_with fail
  go_ret
  exact ⟨rfl, Below.refl _ _⟩
theorem fsame_any (v u : Value) (fs : List (Int × List Int)) (w : World) (hv : Fl w v fs) (hu : Fl w u fs) (hn : fs.length ≤ 10000) (hl : ∀ f ∈ fs, f.2.length ≤ 40000) :
    Calls Try.prog 9 #[v, u] w fun e w' => e = .returned (.bool true) ∧ Below w.heap.size w w' := by
  by_cases h0 : 0 < fs.length
  · rcases hv with ⟨_, _, rfl, _⟩ | ⟨b, o, cap, rfl, h2, h3⟩
    · simp at h0
    rcases hu with ⟨_, _, rfl, _⟩ | ⟨b', o', cap', rfl, h2', h3'⟩
    · simp at h0
    exact fsame_some b o cap b' o' cap' fs w h3 h3' hn hl
  · obtain rfl : fs = [] := List.length_eq_zero_iff.1 (by omega)
    obtain ⟨ao, cap, rfl⟩ := hv.form
    obtain ⟨bo, cap', rfl⟩ := hu.form
    exact fsame_none ao bo cap cap' w
end Go.Proofs.Ytenahnbfaekljaa
