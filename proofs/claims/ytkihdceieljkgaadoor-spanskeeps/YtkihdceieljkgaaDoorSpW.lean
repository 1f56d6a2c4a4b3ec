/-
  THE LAW's OWN EXAMPLE (castellanlaw13.works): true. No condition.
-/
import Derived.Test.YtkihdceieljkgaaDoorSpP
import Derived.Test.YtkihdceieljkgaaDoorSpO
namespace Go.Proofs.YtkihdceieljkgaaDoor
open Go.RowKit

def eg : List Spn := [(0, 0), (1, 3), (4, 7)]
set_option maxRecDepth 100000 in
set_option maxHeartbeats 8000000 in
theorem works_any (w : World) : Calls Tryd.prog 4 #[] w fun e w' => e = .returned (.bool true) ∧ Below w.heap.size w w' := by
  obtain ⟨W1, hW1⟩ : ∃ W1, w.alloc (.cells #[.int .i64 0, .int .i64 0, .int .i64 1, .int .i64 3, .int .i64 4, .int .i64 7] 43) = W1 := ⟨_, rfl⟩
  have HL : Hid (∀ W, Below W1.heap.size W1 W → Ssp W (.slice (some ⟨w.heap.size, 0, none⟩) 3 3) eg) := hide (fun W h => by
    refine Ssp.below (W := W1) ⟨some ⟨w.heap.size, 0, none⟩, 3, rfl, Nat.le_refl _, fun _ => ⟨w.heap.size, 0, rfl, fun j u hu => ?_⟩⟩ h
    rw [← hW1, Nat.zero_add, World.cell?_alloc_at _ _ _ _ rfl]
    simpa [spcs, spc, eg] using hu)
  have HB : Hid (Below W1.heap.size W1 W1) := hide (Below.refl _ _)
  have HB0 : Hid (Below w.heap.size w W1) := hide (by rw [← hW1]; exact (Below.refl _ _).alloc (Nat.le_refl _) _)
  have HRI : Hid (Ris eg) := hide (by unfold Ris eg; decide)
  have e1 : endL eg 3 9 = some (1, 7) := by decide
  have p1 : partL eg 9 3 6 = (1, 7, true) := by decide
  have p2 : partL eg 9 4 9 = (0, 0, false) := by decide
  have k1 : keepL eg 9 1 5 = 5 := by decide
  have k2 : keepL eg 9 2 5 = 7 := by decide
  have a1 : (addL eg 5 9).length = 4 := by decide
  have a2 : (addL eg 4 9).length = 3 := by decide
  have c1 : chkL eg = (0, 0) := by decide
  have HN : Hid (∀ W, Ssp W (.slice none 0 0) []) := hide (fun W => ssp_nil W none 0)
  have HS : Hid (eg.length ≤ 100000) := hide (by decide)
  have HE1 := hide e1
  have HP1 := hide p1
  have HP2 := hide p2
  have HK1 := hide k1
  have HK2 := hide k2
  have HA1 := hide a1
  have HA2 := hide a2
  have HC1 := hide c1
  clear e1 p1 p2 k1 k2 a1 a2 c1
  generalize hE : eg = E at *
  clear hE

  go_enter Tryd.func4, Tryd.ntmps4
  go_upto_region 2 with fail

  clear hW1
  go_upto_region 3 with (first | (go_at_call 16; refine (end_any _ E 3 9 _ (HL.out _ HB.out) HS.out).mono ?_; rw [HE1.out]; rintro e W2 ⟨rfl, hb⟩; replace HB := hide (bt HB.out hb); clear hb; unfold endV))
  go_upto_region 4 with (first | (go_at_call 17; refine (part_any _ E 9 3 6 _ (HL.out _ HB.out) HS.out).mono ?_; rw [HP1.out]; rintro e W3 ⟨rfl, hb⟩; replace HB := hide (bt HB.out hb); clear hb))
  go_upto_region 5 with (first | (go_at_call 17; refine (part_any _ E 9 4 9 _ (HL.out _ HB.out) HS.out).mono ?_; rw [HP2.out]; rintro e W4 ⟨rfl, hb⟩; replace HB := hide (bt HB.out hb); clear hb))
  go_upto_region 6 with (first | (go_at_call 16; refine (end_any _ [] 3 9 _ (HN.out _) (Nat.zero_le _)).mono ?_; rintro e W5 ⟨rfl, hb⟩; replace HB := hide (bt HB.out hb); clear hb; unfold endV endL; simp only [List.reverse_nil, endR]))
  go_wp2_with (first
    | (go_at_call 18; refine (keep_any _ E _ _ _ _ (HL.out _ HB.out) HS.out).mono ?_; (first | rw [HK1.out] | rw [HK2.out]); rintro e W6 ⟨rfl, hb⟩; replace HB := hide (bt HB.out hb); clear hb)
    | (go_at_call 11; refine (Add_any _ E _ _ _ (HL.out _ HB.out) HRI.out HS.out).mono ?_; rintro e W7 ⟨v7, rfl, hv7, hb⟩; replace HB := hide (bt HB.out hb); clear hb; obtain ⟨a7, k7, rfl⟩ := hv7.form; clear hv7; (first | rw [HA1.out] | rw [HA2.out]))
    | (go_at_call 5; refine (check_any _ E _ (HL.out _ HB.out) HS.out).mono ?_; rw [HC1.out]; rintro e W8 ⟨rfl, hb⟩; replace HB := hide (bt HB.out hb); clear hb; unfold erS; simp only [if_true]))
  go_ret
  exact ⟨rfl, bt HB0.out HB.out⟩
end Go.Proofs.YtkihdceieljkgaaDoor
