/-
  THE WALK OF CrcSums: true at any bytes. No condition.
-/
import Derived.Test.YtiobmgfccggpkaaCrcWorks
namespace Go.Proofs.Ytiobmgfccggpkaa
open Go.RowKit

set_option maxRecDepth 100000 in
set_option maxHeartbeats 4000000 in
theorem sums_any (v : Value) (l : List Int) (w : World) (hv : Sl bc w v l) (hby : Byt l) : Calls Try.prog 3 #[v] w fun e w' => e = .returned (.bool true) ∧ Below w.heap.size w w' := by
  have HW := hide works_any
  have HV := hide hv
  have HB := hide hby
  obtain ⟨ao, cap, rfl⟩ := hv.form
  clear hv hby
  by_cases hl : (600 : Int) < (l.length : Int)
  · go_enter Try.func3, Try.ntmps3
    go_wp2_with fail
    refine (HW.out _).mono ?_
    rintro e w1 ⟨rfl, hb1⟩
    go_wp2_with fail
    go_ret
    exact ⟨rfl, hb1⟩
  · go_enter Try.func3, Try.ntmps3
    go_wp2_with fail
    refine (sum_any _ l _ HV.out (by omega) HB.out).mono ?_
    rintro e w1 ⟨rfl, hb1⟩
    have HB1 := hide hb1
    clear hb1
    go_wp2_with fail
    refine (refSum_any _ l _ (HV.out.below HB1.out) (by omega) HB.out).mono ?_
    rintro e w2 ⟨rfl, rfl⟩
    generalize crcL l = S
    go_wp2_with fail
    refine (HW.out _).mono ?_
    rintro e w3 ⟨rfl, hb3⟩
    have HB3 := hide (bt HB1.out hb3)
    clear hb3
    go_wp2_with fail
    go_ret
    exact ⟨rfl, HB3.out⟩
end Go.Proofs.Ytiobmgfccggpkaa
