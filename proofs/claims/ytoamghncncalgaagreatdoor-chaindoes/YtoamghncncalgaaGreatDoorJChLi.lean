/-
  THE LAW's light AND back OF LAYER 9. No condition of its own.
-/
import Derived.Test.YtoamghncncalgaaGreatDoorJFrameOp9
import Derived.Test.YtoamghncncalgaaGreatDoorJChU
namespace Go.Proofs.YtoamghncncalgaaGreatDoor
open Go.ChangeShapes Go.WideShapes Go.ChangeAt Go.RowKit Go.Joins

def sumB (ps : List Ap) : Nat := (ps.map fun p => p.1.by_.length).sum
def liC (ps : List Ap) : Bool := decide (ps.length ≤ 40) && (decide (sumB ps ≤ 3000) && ps.all fun p => decide (p.1.ks.length ≤ 60))
theorem sumB_step {ps : List Ap} {k : Nat} (h : k < ps.length) : sumB (ps.take (k + 1)) = sumB (ps.take k) + ps[k].1.by_.length := by
  unfold sumB
  rw [take_step h, List.map_append, List.sum_append]
  simp
theorem sumB_le (ps : List Ap) (k : Nat) : sumB (ps.take k) ≤ sumB ps := by
  unfold sumB
  conv => rhs; rw [← List.take_append_drop k ps, List.map_append, List.sum_append]
  omega
set_option maxRecDepth 100000 in
set_option maxHeartbeats 4000000 in
theorem lightC_any (v : Value) (ps : List Ap) (w : World) (hv : Al w v ps) (hz : ∀ p ∈ ps, p.1.by_.length ≤ 1152921504606846976) : Calls Tryz.prog 5 #[v] w fun e w' => e = .returned (.bool (liC ps)) ∧ w' = w := by
  obtain ⟨⟨ao, cap, rfl, hr⟩, hp⟩ := hv
  have HR := hide hr
  have HP := hide hp
  have HZ := hide hz
  clear hr hp hz
  by_cases h60 : ps.length ≤ 40
  · go_enter Tryz.func5, Tryz.ntmps5
    go_wp2
    go_loopw [3, 4] (fun n i W => ∃ k : Nat, k ≤ ps.length ∧ i = .int .i64 k ∧ n = .int .i64 (sumB (ps.take k) : Int) ∧ W = w ∧ sumB (ps.take k) ≤ 3000 ∧ ((ps.take k).all fun p => decide (p.1.ks.length ≤ 60)) = true) (fun _ i _ => ps.length - (iv i).toNat)
    case atStart => exact ⟨0, Nat.zero_le _, rfl, rfl, rfl, Nat.zero_le _, rfl⟩
    case round =>
      obtain ⟨k, hk, rfl, rfl, rfl, hs, hall⟩ := hrel
      by_cases hlt : k < ps.length
      · obtain ⟨b, o, rfl, hrg⟩ := HR.out (by omega)
        have he := Al.at hrg hlt
        have c2 := he 2 _ rfl
        have c3 := he 3 _ rfl
        have hmx := HZ.out _ (List.getElem_mem hlt)
        obtain ⟨a2, k2, e2⟩ := (HP.out _ (List.getElem_mem hlt)).1.form
        obtain ⟨a3, k3, e3⟩ := (HP.out _ (List.getElem_mem hlt)).2.2.form
        rw [e2] at c2
        rw [e3] at c3
        have HT : Hid ((ps.take (k + 1)).all (fun p => decide (p.1.ks.length ≤ 60)) = decide (ps[k].1.ks.length ≤ 60)) := hide (by rw [take_step hlt, List.all_append, hall]; simp)
        have HS : Hid (sumB (ps.take (k + 1)) = sumB (ps.take k) + ps[k].1.by_.length) := hide (sumB_step hlt)
        have HL : Hid (sumB (ps.take k) + ps[k].1.by_.length ≤ sumB ps) := hide (by rw [← sumB_step hlt]; exact sumB_le _ _)
        have HF : Hid (decide (ps[k].1.ks.length ≤ 60) = false → liC ps = false) := hide (fun hq => by
          unfold liC
          rw [show (ps.all fun p => decide (p.1.ks.length ≤ 60)) = false from List.all_eq_false.2 ⟨ps[k], List.getElem_mem hlt, by rw [hq]; simp⟩, Bool.and_false, Bool.and_false])
        have HF2 : Hid (3000 < sumB ps → liC ps = false) := hide (fun hq => by
          unfold liC
          rw [decide_eq_false (p := sumB ps ≤ 3000) (by omega), Bool.false_and, Bool.and_false])
        have HALL := hide hall
        generalize ps[k].1.by_.length = n2 at c2 HS HL hmx
        generalize ps[k].1.ks.length = n3 at c3 HT HF
        generalize sumB (ps.take k) = n1 at HS HL hs ⊢
        have hmx3 : (n1 : Int) + n2 < 9223372036854775808 := by omega
        have hltI : (k : Int) < (ps.length : Int) := by omega
        clear he hrg e2 e3 hall hmx HP
        by_cases h3 : n3 ≤ 60
        · have h3I : ¬ (60 : Int) < (n3 : Int) := by omega
          by_cases h2 : n1 + n2 ≤ 3000
          · have h2I : ¬ (3000 : Int) < (n1 : Int) + (n2 : Int) := by omega
            go_wp2_with fail
            exact ⟨⟨k + 1, by omega, by go_num, by rw [HS.out]; go_num, by trivial, by rw [HS.out]; exact h2, by rw [HT.out]; simp [h3]⟩, by simp [iv]; omega⟩
          · have h2I : (3000 : Int) < (n1 : Int) + (n2 : Int) := by omega
            go_wp2_with fail
            all_goals first | (exfalso; omega) | (go_ret; exact ⟨by rw [HF2.out (by have := HL.out; omega)]; rfl, rfl⟩)
        · have h3I : (60 : Int) < (n3 : Int) := by omega
          go_wp2_with fail
          all_goals first | (exfalso; omega) | (go_ret; exact ⟨by rw [HF.out (by simp; omega)]; rfl, rfl⟩)
      · have HT : Hid (liC ps = true) := hide (by
          unfold liC
          rw [List.take_of_length_le (by omega)] at hall hs
          rw [decide_eq_true h60, Bool.true_and, decide_eq_true hs, Bool.true_and]
          exact hall)
        clear hall
        go_wp2
        go_ret
        exact ⟨by rw [HT.out]; rfl, rfl⟩
  · have HF : Hid (liC ps = false) := hide (by unfold liC; rw [decide_eq_false h60, Bool.false_and])
    go_enter Tryz.func5, Tryz.ntmps5
    go_wp2
    go_ret
    exact ⟨by rw [HF.out]; rfl, rfl⟩
theorem liC_is {ps : List Ap} (h : liC ps = true) : ps.length ≤ 40 ∧ sumB ps ≤ 3000 ∧ ∀ p ∈ ps, p.1.ks.length ≤ 60 := by
  unfold liC at h
  simp only [Bool.and_eq_true, decide_eq_true_eq, List.all_eq_true] at h
  exact h
end Go.Proofs.YtoamghncncalgaaGreatDoor
