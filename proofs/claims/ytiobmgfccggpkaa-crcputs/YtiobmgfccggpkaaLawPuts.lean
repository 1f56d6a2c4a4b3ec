/-
  THE WALK OF CrcPuts: true at any bytes. No condition.
-/
import Derived.Test.YtiobmgfccggpkaaCrcWorks
import Derived.Test.YtiobmgfccggpkaaSameB
namespace Go.Proofs.Ytiobmgfccggpkaa
open Go.RowKit

/-- Two answers of Open at the same bytes: both have them, or both have none. -/
theorem open_both {l : List Int} {w : World} {u : Value} {f : Bool} (h : (f = true ∧ openL l = some (l.take (l.length - 4)) ∧ Sl bc w u (l.take (l.length - 4))) ∨ (f = false ∧ openL l = none ∧ u = .slice none 0 0)) :
    f = (openL l).isSome ∧ Sl bc w u ((openL l).getD []) := by
  rcases h with ⟨rfl, h1, h2⟩ | ⟨rfl, h1, rfl⟩
  · rw [h1]; exact ⟨rfl, h2⟩
  · rw [h1]; exact ⟨rfl, Sl.nil _ _ _ _⟩
theorem openL_le (l : List Int) : ((openL l).getD []).length ≤ l.length := by
  unfold openL
  split
  · simp
  · split
    · simp [List.length_take]
    · simp
theorem copen_whole (v : Value) (l : List Int) (w : World) (hv : Sl bc w v (l ++ le4 (crcL l))) (hl : l.length ≤ 10000) (hby : Byt l) :
    Calls Try.prog 12 #[v] w fun e w' => (∃ u, e = .returned (.tuple #[u, .bool true]) ∧ Sl bc w' u l) ∧ Below w.heap.size w w' := by
  have hp : Byt (l ++ le4 (crcL l)) := fun x hx => (List.mem_append.1 hx).elim (hby x) (le4_byt _ x)
  refine (copen_any v _ w hv (by simp [le4]; omega) hp).mono ?_
  rintro e w' ⟨⟨u, f, rfl, h⟩, hb⟩
  obtain ⟨rfl, h2⟩ := open_both h
  rw [openL_put] at h2 ⊢
  exact ⟨⟨u, rfl, h2⟩, hb⟩
set_option maxRecDepth 100000 in
set_option maxHeartbeats 4000000 in
theorem puts_any (v : Value) (l : List Int) (w : World) (hv : Sl bc w v l) (hby : Byt l) : Calls Try.prog 5 #[v] w fun e w' => e = .returned (.bool true) ∧ Below w.heap.size w w' := by
  have HW := hide works_any
  have HV := hide hv
  have HB := hide hby
  obtain ⟨ao, cap, rfl⟩ := hv.form
  clear hv hby
  by_cases hl : (500 : Int) < (l.length : Int)
  · go_enter Try.func5, Try.ntmps5
    go_wp2_with fail
    refine (HW.out _).mono ?_
    rintro e w1 ⟨rfl, hb1⟩
    go_wp2_with fail
    go_ret
    exact ⟨rfl, hb1⟩
  · have hl' : l.length ≤ 500 := by omega
    have hle := openL_le l
    have hpl : (l ++ le4 (crcL l)).length ≤ 40000 := by simp [le4]; omega
    go_enter Try.func5, Try.ntmps5
    go_wp2_with fail
    refine (copen_any _ l _ HV.out (by omega) HB.out).mono ?_
    rintro e w1 ⟨⟨u1, f1, rfl, h1⟩, hb1⟩
    obtain ⟨rfl, hs1⟩ := open_both h1
    have HS1 := hide hs1
    have HB1 := hide hb1
    clear hb1 h1 hs1
    go_wp2_with fail
    refine (refOpen_any _ l _ (HV.out.below HB1.out) (by omega) HB.out).mono ?_
    rintro e w2 ⟨⟨u2, f2, rfl, h2⟩, hb2⟩
    obtain ⟨rfl, hs2⟩ := open_both h2
    have HS2 := hide hs2
    have HS1' := hide (HS1.out.below hb2)
    have HB2 := hide (bt HB1.out hb2)
    clear hb2 h2 hs2 HS1
    generalize (openL l).getD [] = ol at *
    generalize (openL l).isSome = oi at *
    go_wp2_with fail
    refine (put_any _ l _ (HV.out.below HB2.out) (by omega) HB.out).mono ?_
    rintro e w3 ⟨v3, rfl, hown, hb3⟩
    have HP : Hid (Sl bc w3 v3 (l ++ le4 (crcL l))) := hide (sl_of_owns hown)
    have HS1 := hide (HS1'.out.below hb3)
    have HS2' := hide (HS2.out.below hb3)
    have HB3 := hide (bt HB2.out hb3)
    clear hb3 hown HS1' HS2
    go_wp2_with fail
    refine (same_bytes _ _ ol _ HS1.out HS2'.out (by omega)).mono ?_
    rintro e w4 ⟨rfl, hb4⟩
    have HP4 := hide (HP.out.below hb4)
    have HB4 := hide (bt HB3.out hb4)
    clear hb4 HP HS1 HS2'
    go_wp2_with fail
    refine (refPut_any _ l _ (HV.out.below HB4.out) (by omega) HB.out).mono ?_
    rintro e w5 ⟨v5, rfl, hown5, hb5⟩
    have HP5 := hide (HP4.out.below hb5)
    have HQ5 : Hid (Sl bc w5 v5 (l ++ le4 (crcL l))) := hide (sl_of_owns hown5)
    have HB5 := hide (bt HB4.out hb5)
    clear hb5 hown5 HP4
    go_wp2_with fail
    refine (same_bytes _ _ (l ++ le4 (crcL l)) _ HP5.out HQ5.out hpl).mono ?_
    rintro e w6 ⟨rfl, hb6⟩
    have HP6 := hide (HP5.out.below hb6)
    have HB6 := hide (bt HB5.out hb6)
    clear hb6 HP5 HQ5
    go_wp2_with fail
    refine (copen_whole _ l _ HP6.out (by omega) HB.out).mono ?_
    rintro e w7 ⟨⟨u7, rfl, hs7⟩, hb7⟩
    have HS7 := hide hs7
    have HB7 := hide (bt HB6.out hb7)
    clear hb7 hs7
    go_wp2_with fail
    refine (same_bytes _ _ l _ HS7.out (HV.out.below HB7.out) (by omega)).mono ?_
    rintro e w8 ⟨rfl, hb8⟩
    have HB8 := hide (bt HB7.out hb8)
    clear hb8
    go_wp2_with fail
    refine (HW.out _).mono ?_
    rintro e w9 ⟨rfl, hb9⟩
    have HB9 := hide (bt HB8.out hb9)
    clear hb9
    go_wp2_with fail
    go_ret
    exact ⟨rfl, HB9.out⟩
end Go.Proofs.Ytiobmgfccggpkaa
